package tests

import (
	"bytes"
	"fmt"
	"math"
	"strings"
	"testing"

	"loop.example/g00257/impl"
)

// noDrawn holds numbers of bytes that can not be drawn, the nearest and the farthest ones.
var noDrawn = []int{-1, 8161, -2, -8160, 8192, 1 << 16, 1 << 31, 1 << 32, 1<<32 + 32, -1 << 32, math.MinInt, math.MinInt + 1, math.MaxInt, math.MaxInt - 31}

func drawnCalls() map[string]func(a, b []byte, n int) (string, int) {
	return map[string]func(a, b []byte, n int) (string, int){
		"HkdfExpand":        func(a, b []byte, n int) (string, int) { return impl.HkdfExpand(string(a), b, n) },
		"Hkdf, salt first":  func(a, b []byte, n int) (string, int) { return impl.Hkdf(a, []byte("x"), b, n) },
		"Hkdf, secret last": func(a, b []byte, n int) (string, int) { return impl.Hkdf(a, b, []byte("x"), n) },
		"Hkdf, info last":   func(a, b []byte, n int) (string, int) { return impl.Hkdf([]byte("x"), a, b, n) },
	}
}

func macCalls() map[string]func(a, b []byte) (string, int) {
	return map[string]func(a, b []byte) (string, int){"Hmac": impl.Hmac, "HkdfExtract": impl.HkdfExtract}
}

func TestP1NumbersThatCanNotBeDrawn(t *testing.T) {
	for name, call := range drawnCalls() {
		for _, n := range noDrawn {
			for _, a := range []string{"", "key", longText[:65], longText[:impl.MaxText]} {
				if x, code := call([]byte(a), nil, n); x != "" || code != impl.ErrRange {
					t.Errorf("%s of %d bytes is %d bytes, %d", name, n, len(x), code)
				}
			}
		}
		for _, n := range []int{0, 1, 31, 32, 33, 64, 8159, 8160} {
			if x, code := call([]byte("key"), []byte("info"), n); len(x) != n || code != impl.OK {
				t.Errorf("%s of %d bytes is %d bytes, %d", name, n, len(x), code)
			}
		}
	}
}

func TestP1WhatIsTooLongToDraw(t *testing.T) {
	for name, call := range drawnCalls() {
		for _, n := range append([]int{0, 1, 32, 8160}, noDrawn...) {
			for _, c := range [][2][]byte{{longBytes, nil}, {nil, longBytes}, {longBytes, longBytes}, {longBytes, []byte("x")}, {[]byte("x"), longBytes}} {
				if x, code := call(c[0], c[1], n); x != "" || code != impl.ErrLong {
					t.Errorf("%s of %d and %d bytes, of %d bytes, is %d bytes, %d", name, len(c[0]), len(c[1]), n, len(x), code)
				}
			}
		}
	}
}

func TestP1WhatIsTooLongForHashes(t *testing.T) {
	for _, n := range []int{1, 2, 64, impl.MaxText} {
		b := []byte(strings.Repeat("b", impl.MaxText+n))
		if h := impl.Hash(b); h != "" {
			t.Errorf("Hash of MaxText + %d bytes is %x", n, h)
		}
		if x, code := impl.HexText(string(b)); x != "" || code != impl.ErrLong {
			t.Errorf("HexText of MaxText + %d bytes is %d bytes, %d", n, len(x), code)
		}
		for name, call := range macCalls() {
			for _, c := range [][2][]byte{{b, nil}, {nil, b}, {b, b}, {b, []byte("x")}, {[]byte("x"), b}} {
				if m, code := call(c[0], c[1]); m != "" || code != impl.ErrLong {
					t.Errorf("%s of %d and %d bytes is %x, %d", name, len(c[0]), len(c[1]), m, code)
				}
			}
		}
		for _, other := range [][]byte{nil, []byte("x"), b, bytes.Clone(b), b[:impl.MaxText], longBytes} {
			if same, code := impl.EqualBytes(b, other); same || code != impl.ErrLong {
				t.Errorf("EqualBytes of %d and %d bytes is %t, %d", len(b), len(other), same, code)
			}
			if same, code := impl.EqualBytes(other, b); same || code != impl.ErrLong {
				t.Errorf("EqualBytes of %d and %d bytes is %t, %d", len(other), len(b), same, code)
			}
		}
	}
}

// What a call puts ahead of its text, or behind it, does not count as the text.
func TestP1TheMostThatHashesTake(t *testing.T) {
	most := longBytes[:impl.MaxText]
	if h := impl.Hash(most); len(h) != 32 {
		t.Errorf("Hash of MaxText bytes is %x", h)
	}
	if x, code := impl.HexText(string(most)); len(x) != 2*impl.MaxText || code != impl.OK {
		t.Errorf("HexText of MaxText bytes is %d bytes, %d", len(x), code)
	}
	for name, call := range macCalls() {
		if m, code := call(most, most); len(m) != 32 || code != impl.OK {
			t.Errorf("%s of MaxText bytes is %x, %d", name, m, code)
		}
	}
	if x, code := impl.HkdfExpand(string(most), most, 8160); len(x) != 8160 || code != impl.OK {
		t.Errorf("HkdfExpand of MaxText bytes is %d bytes, %d", len(x), code)
	}
	if x, code := impl.Hkdf(most, most, most, 8160); len(x) != 8160 || code != impl.OK {
		t.Errorf("Hkdf of MaxText bytes is %d bytes, %d", len(x), code)
	}
	if same, code := impl.EqualBytes(most, bytes.Clone(most)); !same || code != impl.OK {
		t.Errorf("EqualBytes of MaxText bytes is %t, %d", same, code)
	}
}

func TestP1NothingIsHashedAsNothing(t *testing.T) {
	none := []byte{}
	if h := impl.Hash(nil); len(h) != 32 || h != impl.Hash(none) {
		t.Errorf("Hash of nil is %x", h)
	}
	for name, call := range macCalls() {
		m, code := call(nil, nil)
		for _, c := range [][2][]byte{{none, none}, {nil, none}, {none, nil}} {
			if x, other := call(c[0], c[1]); len(x) != 32 || x != m || other != impl.OK || code != impl.OK {
				t.Errorf("%s of nothing is %x, %d", name, x, other)
			}
		}
	}
	for name, call := range drawnCalls() {
		x, code := call(nil, nil, 40)
		if y, other := call(none, none, 40); len(x) != 40 || x != y || code != impl.OK || other != impl.OK {
			t.Errorf("%s of nothing is %x, %d, and %x, %d", name, x, code, y, other)
		}
		if x, code := call(nil, nil, 0); x != "" || code != impl.OK {
			t.Errorf("%s of nothing, of no byte, is %x, %d", name, x, code)
		}
	}
	if x, code := impl.HexText(""); x != "" || code != impl.OK {
		t.Errorf("HexText of nothing is %q, %d", x, code)
	}
}

// everyHashOf calls all functions of the hashes that take bytes.
func everyHashOf(a, b, c []byte) string {
	var out []string
	tell := func(x any, code int) { out = append(out, fmt.Sprintf("%x %d", x, code)) }
	same := func(equal bool, code int) { out = append(out, fmt.Sprint(equal, code)) }
	tell(impl.Hash(a), 0)
	tell(impl.Hmac(a, b))
	tell(impl.HkdfExtract(b, a))
	tell(impl.HkdfExpand(string(a), c, 70))
	tell(impl.Hkdf(a, b, c, 70))
	tell(impl.HexText(string(c)))
	same(impl.EqualBytes(a, b))
	same(impl.EqualBytes(a, a))
	return strings.Join(out, "\n")
}

func TestP1HashedBytesStayAsTheyWere(t *testing.T) {
	for _, n := range []int{0, 1, 23, 31, 32, 33, 54, 55, 56, 57, 63, 64, 65, 119, 120, 128} {
		s := stream(n)
		whole := []byte(s.text(400)) // with room behind each end
		was := bytes.Clone(whole)
		everyHashOf(whole[:n], whole[130:130+n], whole[260:260+n])
		if !bytes.Equal(whole, was) {
			t.Fatalf("what is hashed of %d bytes is changed", n)
		}
		shared := everyHashOf(whole[:n], whole[:n], whole[:n])
		if !bytes.Equal(whole, was) {
			t.Fatalf("what is hashed of %d bytes thrice is changed", n)
		}
		if apart := everyHashOf(bytes.Clone(whole[:n]), bytes.Clone(whole[:n]), bytes.Clone(whole[:n])); apart != shared {
			t.Fatalf("answers hang on whose memory %d bytes are", n)
		}
	}
}

func TestP1HashesAreNotTheirArgumentsMemory(t *testing.T) {
	b := []byte("some bytes that are changed later on")
	h := impl.Hash(b)
	m, _ := impl.Hmac(b, b)
	x, _ := impl.Hkdf(b, b, b, 50)
	was := h + m + x
	for i := range b {
		b[i] = 0
	}
	if h+m+x != was {
		t.Error("an answer is its argument's memory")
	}
}

// everyHashCall tells what each function of the hashes answers to inputs drawn from a seed, wrong ones among them.
func everyHashCall(seed stream) string {
	s := seed
	a, b, c := []byte(s.text(int(s.next())%140)), []byte(s.text(int(s.next())%140)), []byte(s.text(int(s.next())%140))
	n := int(s.next())%110 - 5
	x, code := impl.HkdfExpand(string(a), b, n)
	y, other := impl.Hkdf(a, b, c, n)
	long, most := impl.Hmac(longBytes, a)
	return everyHashOf(a, b, c) + fmt.Sprintf("\n%x %d %x %d %x %d", x, code, y, other, long, most)
}

func TestP1AlikeArgumentsHaveAlikeHashes(t *testing.T) {
	alikeAnswers(t, everyHashCall)
}

func TestP1ManyHashesAtOnce(t *testing.T) {
	alikeAtOnce(t, everyHashCall)
}
