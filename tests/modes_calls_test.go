package tests

import (
	"bytes"
	"crypto/cipher"
	"fmt"
	"strings"
	"testing"

	"loop.example/g00257/impl"
)

var longBytes = []byte(longText)

// modeCall is a call by a key and by something to begin with; size is how long that must be, most how many bytes the call takes.
type modeCall struct {
	name       string
	size, most int
	call       func(key, start string, b []byte) ([]byte, int)
}

func macCall(key, _ string, b []byte) ([]byte, int) {
	m, code := impl.Cmac(key, b)
	return []byte(m), code
}

func modeCalls() []modeCall {
	return []modeCall{
		{"CtrXor", 12, impl.MaxText, impl.CtrXor},
		{"CbcEncrypt", 16, impl.MaxText - 16, impl.CbcEncrypt},
		{"CbcDecrypt", 16, impl.MaxText, impl.CbcDecrypt},
		{"Cmac", -1, impl.MaxText, macCall},
	}
}

func (m modeCall) start() string { return someBlock[:max(m.size, 0)] }

// rightBytes are some that each call takes with someKey, or with it twice, and its start.
func (m modeCall) rightBytes(t *testing.T, key string) []byte {
	t.Helper()
	b := []byte("some bytes, more than one block")
	if m.name == "CbcDecrypt" {
		return chained(t, key, m.start(), paddedByRule(b))
	}
	return b
}

// chained chains blocks as they are, rightly padded or not.
func chained(t *testing.T, key, first string, b []byte) []byte {
	t.Helper()
	out := bytes.Clone(b)
	cipher.NewCBCEncrypter(ready(t, key), []byte(first)).CryptBlocks(out, out)
	return out
}

func TestP1KeysOfModes(t *testing.T) {
	for _, m := range modeCalls() {
		for n := range 66 {
			if n == 16 || n == 32 {
				key := strings.Repeat(someKey, n/16)
				if x, code := m.call(key, m.start(), m.rightBytes(t, key)); len(x) == 0 || code != impl.OK {
					t.Errorf("%s with a key of %d bytes is %d bytes, %d", m.name, n, len(x), code)
				}
				continue
			}
			for _, b := range [][]byte{nil, []byte("x"), m.rightBytes(t, someKey)} {
				if x, code := m.call(longText[:n], m.start(), b); len(x) != 0 || code != impl.ErrBad {
					t.Errorf("%s with a key of %d bytes is %d bytes, %d", m.name, n, len(x), code)
				}
			}
		}
		if x, code := m.call(longText[:impl.MaxText], m.start(), nil); len(x) != 0 || code != impl.ErrBad {
			t.Errorf("%s with a key of MaxText bytes is %d bytes, %d", m.name, len(x), code)
		}
	}
}

func TestP1StartsOfModes(t *testing.T) {
	for _, m := range modeCalls() {
		if m.size < 0 {
			continue
		}
		for _, n := range []int{0, 1, 8, 11, 12, 13, 15, 16, 17, 24, 32, impl.MaxText} {
			if n == m.size {
				continue
			}
			for _, b := range [][]byte{nil, []byte("x"), m.rightBytes(t, someKey)} {
				if x, code := m.call(someKey, longText[:n], b); len(x) != 0 || code != impl.ErrBad {
					t.Errorf("%s that begins with %d bytes is %d bytes, %d", m.name, n, len(x), code)
				}
			}
		}
	}
}

func TestP1WhatIsTooLongForModes(t *testing.T) {
	for _, m := range modeCalls() {
		long := longBytes[:m.most+1]
		for _, c := range []struct {
			key, start string
			b          []byte
		}{
			{someKey, m.start(), long},
			{someKey, m.start(), longBytes},
			{"short", m.start(), long},
			{someKey, "short", long},
			{"", "", long},
			{longText, m.start(), nil},
			{longText, "short", []byte("x")},
			{longText, longText, longBytes},
		} {
			if x, code := m.call(c.key, c.start, c.b); len(x) != 0 || code != impl.ErrLong {
				t.Errorf("%s of %d, %d and %d bytes is %d bytes, %d", m.name, len(c.key), len(c.start), len(c.b), len(x), code)
			}
		}
		if m.size < 0 {
			continue
		}
		for _, key := range []string{someKey, "short", ""} {
			if x, code := m.call(key, longText, nil); len(x) != 0 || code != impl.ErrLong {
				t.Errorf("%s that begins with a text that is too long is %d bytes, %d", m.name, len(x), code)
			}
		}
	}
}

func TestP1TheMostThatModesTake(t *testing.T) {
	if x, code := impl.CtrXor(someKey, someNonce, longBytes[:impl.MaxText]); len(x) != impl.MaxText || code != impl.OK {
		t.Errorf("CtrXor of MaxText bytes is %d bytes, %d", len(x), code)
	}
	if x, code := impl.Cmac(someKey, longBytes[:impl.MaxText]); len(x) != 16 || code != impl.OK {
		t.Errorf("Cmac of MaxText bytes is %d bytes, %d", len(x), code)
	}
	for _, n := range []int{impl.MaxText - 15, impl.MaxText - 1, impl.MaxText, impl.MaxText + 1} {
		if x, code := impl.PadBlocks(longBytes[:n]); len(x) != 0 || code != impl.ErrLong {
			t.Errorf("PadBlocks of %d bytes is %d bytes, %d", n, len(x), code)
		}
		if x, code := impl.CbcEncrypt(someKey, someBlock, longBytes[:n]); len(x) != 0 || code != impl.ErrLong {
			t.Errorf("CbcEncrypt of %d bytes is %d bytes, %d", n, len(x), code)
		}
	}
	b := longBytes[:impl.MaxText-16]
	if x, code := impl.PadBlocks(b); len(x) != impl.MaxText || code != impl.OK {
		t.Errorf("PadBlocks of MaxText - 16 bytes is %d bytes, %d", len(x), code)
	}
	x, code := impl.CbcEncrypt(someKey, someBlock, b)
	if len(x) != impl.MaxText || code != impl.OK {
		t.Errorf("CbcEncrypt of MaxText - 16 bytes is %d bytes, %d", len(x), code)
	}
	if y, code := impl.CbcDecrypt(someKey, someBlock, x); len(y) != impl.MaxText-16 || code != impl.OK {
		t.Errorf("CbcDecrypt of MaxText bytes is %d bytes, %d", len(y), code)
	}
	if y, code := impl.UnpadBlocks(bytes.Repeat([]byte{1}, impl.MaxText+16)); len(y) != 0 || code != impl.ErrLong {
		t.Errorf("UnpadBlocks of MaxText + 16 bytes is %d bytes, %d", len(y), code)
	}
	if y, code := impl.UnpadBlocks(longBytes); len(y) != 0 || code != impl.ErrLong {
		t.Errorf("UnpadBlocks of MaxText + 1 bytes is %d bytes, %d", len(y), code)
	}
}

// wronglyPadded are whole blocks that no padding makes.
func wronglyPadded() [][]byte {
	var list [][]byte
	for _, size := range []int{16, 32, impl.MaxText} {
		for _, last := range []int{0, 17, 18, 31, 32, 33, 127, 128, 240, 255} {
			list = append(list, bytes.Repeat([]byte{byte(last)}, size))
		}
		for n := 2; n <= 16; n++ {
			for _, at := range []int{2, n/2 + 1, n} { // one of the filling is another
				for _, other := range []int{0, n - 1, n + 1, n ^ 128} {
					b := bytes.Repeat([]byte{byte(n)}, size)
					b[size-at] = byte(other)
					list = append(list, b)
				}
			}
		}
	}
	return list
}

func TestP1WrongPadding(t *testing.T) {
	for _, b := range wronglyPadded() {
		end := b[len(b)-16:]
		if x, code := impl.UnpadBlocks(b); len(x) != 0 || code != impl.ErrForm {
			t.Errorf("UnpadBlocks of %d bytes that end with %v is %d bytes, %d", len(b), end, len(x), code)
		}
		if len(b) == impl.MaxText && end[15] > 2 { // these take their time
			continue
		}
		if x, code := impl.CbcDecrypt(someKey, someBlock, chained(t, someKey, someBlock, b)); len(x) != 0 || code != impl.ErrForm {
			t.Errorf("CbcDecrypt of %d bytes that end with %v is %d bytes, %d", len(b), end, len(x), code)
		}
	}
}

func TestP1LengthsThatAreNoBlocks(t *testing.T) {
	sizes := []int{0, impl.MaxText - 1, impl.MaxText - 15}
	for n := range 50 {
		if n%16 != 0 {
			sizes = append(sizes, n)
		}
	}
	for _, n := range sizes {
		b := bytes.Repeat([]byte{1}, n) // whose last byte looks like a filling
		if x, code := impl.UnpadBlocks(b); len(x) != 0 || code != impl.ErrForm {
			t.Errorf("UnpadBlocks of %d bytes is %d bytes, %d", n, len(x), code)
		}
		if x, code := impl.CbcDecrypt(someKey, someBlock, b); len(x) != 0 || code != impl.ErrForm {
			t.Errorf("CbcDecrypt of %d bytes is %d bytes, %d", n, len(x), code)
		}
		if x, code := impl.CbcDecrypt("short", someBlock, b); len(x) != 0 || code != impl.ErrBad {
			t.Errorf("CbcDecrypt of %d bytes with a wrong key is %d bytes, %d", n, len(x), code)
		}
		if x, code := impl.CbcDecrypt(someKey, "short", b); len(x) != 0 || code != impl.ErrBad {
			t.Errorf("CbcDecrypt of %d bytes with a wrong first block is %d bytes, %d", n, len(x), code)
		}
	}
}

func TestP1NothingAtAll(t *testing.T) {
	for _, b := range [][]byte{nil, {}} {
		if x, code := impl.PadBlocks(b); code != impl.OK || !bytes.Equal(x, bytes.Repeat([]byte{16}, 16)) {
			t.Errorf("PadBlocks of nothing is %v, %d", x, code)
		}
		if x, code := impl.UnpadBlocks(b); len(x) != 0 || code != impl.ErrForm {
			t.Errorf("UnpadBlocks of nothing is %v, %d", x, code)
		}
		if x, code := impl.CtrXor(someKey, someNonce, b); len(x) != 0 || code != impl.OK {
			t.Errorf("CtrXor of nothing is %v, %d", x, code)
		}
		x, code := impl.CbcEncrypt(someKey, someBlock, b)
		if len(x) != 16 || code != impl.OK {
			t.Errorf("CbcEncrypt of nothing is %v, %d", x, code)
		}
		if y, code := impl.CbcDecrypt(someKey, someBlock, x); len(y) != 0 || code != impl.OK {
			t.Errorf("CbcDecrypt of nothing chained is %v, %d", y, code)
		}
		if y, code := impl.CbcDecrypt(someKey, someBlock, b); len(y) != 0 || code != impl.ErrForm {
			t.Errorf("CbcDecrypt of nothing is %v, %d", y, code)
		}
		if m, code := impl.Cmac(someKey, b); len(m) != 16 || code != impl.OK {
			t.Errorf("Cmac of nothing is %x, %d", m, code)
		}
	}
}

// byteCalls are the calls of this stage that answer bytes, or bytes of their text, with all else given.
func byteCalls() map[string]func(b []byte) ([]byte, int) {
	calls := map[string]func(b []byte) ([]byte, int){"PadBlocks": impl.PadBlocks, "UnpadBlocks": impl.UnpadBlocks}
	for _, m := range modeCalls() {
		calls[m.name] = func(b []byte) ([]byte, int) { return m.call(someKey, m.start(), b) }
	}
	return calls
}

func TestP1BytesStayAsTheyWere(t *testing.T) {
	for name, call := range byteCalls() {
		for _, n := range []int{0, 1, 15, 16, 17, 31, 32, 33, 48} {
			for _, right := range []bool{false, true} {
				whole := bytes.Repeat([]byte{3}, 96)
				if right && name == "CbcDecrypt" {
					copy(whole[16:], chained(t, someKey, someBlock, whole[16:16+n/16*16]))
				}
				was := bytes.Clone(whole)
				x, code := call(whole[16 : 16+n]) // with room behind its end
				if !bytes.Equal(whole, was) {
					t.Fatalf("%s of %d bytes left %v, %d", name, n, whole, code)
				}
				x = x[:cap(x)]
				for i := range x {
					x[i] ^= 0xff
				}
				x = append(x, 0xff)
				if !bytes.Equal(whole, was) {
					t.Fatalf("what %s answers to %d bytes is its argument's memory, %d", name, n, code)
				}
			}
		}
	}
}

func TestP1AnswersOfModesAreNewMemory(t *testing.T) {
	for name, call := range byteCalls() {
		b := bytes.Repeat([]byte{3}, 48)
		if name == "CbcDecrypt" {
			b = chained(t, someKey, someBlock, b)
		}
		x, code := call(b)
		y, _ := call(b)
		if code != impl.OK || len(x) == 0 || !bytes.Equal(x, y) {
			t.Fatalf("%s is %v, then %v, %d", name, x, y, code)
		}
		x[0]++
		if x[0] == y[0] {
			t.Errorf("two answers of %s share memory", name)
		}
	}
}

// everyModeCall tells in one text what each function of the modes answers to inputs drawn from a seed.
func everyModeCall(seed stream) string {
	s := seed
	key := s.text([]int{16, 32, 16, 32, 31}[s.next()%5])
	nonce := s.text([]int{12, 12, 12, 13}[s.next()%4])
	first := s.text([]int{16, 16, 16, 15}[s.next()%4])
	b := []byte(s.text(int(s.next()) % 70))
	var out []string
	tell := func(x []byte, code int) { out = append(out, fmt.Sprintf("%x %d", x, code)) }
	padded, code := impl.PadBlocks(b)
	tell(padded, code)
	tell(impl.UnpadBlocks(padded))
	tell(impl.UnpadBlocks(b))
	tell(impl.CtrXor(key, nonce, b))
	x, code := impl.CbcEncrypt(key, first, b)
	tell(x, code)
	tell(impl.CbcDecrypt(key, first, x))
	tell(impl.CbcDecrypt(key, first, padded))
	tell(macCall(key, "", b))
	return strings.Join(out, "\n")
}

func TestP1AlikeArgumentsHaveAlikeAnswersOfModes(t *testing.T) {
	alikeAnswers(t, everyModeCall)
}

func TestP1ManyModesAtOnce(t *testing.T) {
	alikeAtOnce(t, everyModeCall)
}
