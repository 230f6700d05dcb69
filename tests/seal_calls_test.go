package tests

import (
	"bytes"
	"fmt"
	"math"
	"strings"
	"testing"

	"loop.example/g00257/impl"
)

// noWord holds numbers that four bytes do not hold, the nearest and the farthest ones, and such as would be right if they were cut.
var noWord = []int{-1, 4294967296, -2, 4294967297, -256, -4294967295, -4294967296, 1<<33 + 1, 1 << 40, -1 << 40, math.MinInt, math.MinInt + 1, math.MaxInt - 1, math.MaxInt}

type sealCall struct {
	name string
	most int
	call func(key, nonce string, extra, b []byte) ([]byte, int)
}

func sealCalls() []sealCall {
	return []sealCall{{"SealBytes", impl.MaxText - 16, impl.SealBytes}, {"OpenBytes", impl.MaxText, impl.OpenBytes}}
}

func (c sealCall) answers(t *testing.T, key, nonce string, extra, b []byte, want int) {
	t.Helper()
	if x, code := c.call(key, nonce, extra, b); len(x) != 0 || code != want {
		t.Errorf("%s of %d, %d, %d and %d bytes is %d bytes, %d, not %d", c.name, len(key), len(nonce), len(extra), len(b), len(x), code, want)
	}
}

// someBytes are what a call takes with sealKey, someNonce and no extra, and what it has no right tag or form for.
func someBytes(t *testing.T) [][]byte {
	t.Helper()
	return [][]byte{nil, {}, []byte("x"), longBytes[:15], longBytes[:16], longBytes[:33], []byte(sealed(t, sealKey, someNonce, "", "bytes"))}
}

func noSealKeys() []string {
	var keys []string
	for n := range 70 {
		if n != 32 {
			keys = append(keys, longText[:n])
		}
	}
	return append(keys, longText[:255], longText[:impl.MaxText-1], longText[:impl.MaxText])
}

func noNonces() []string {
	var nonces []string
	for n := range 40 {
		if n != 12 {
			nonces = append(nonces, longText[:n])
		}
	}
	return append(nonces, longText[:impl.MaxText])
}

func TestP1NumbersThatAreNoPlaceOrVersion(t *testing.T) {
	for _, wrong := range noWord {
		for _, other := range append(append([]int{}, noWord...), wordEdges...) {
			if nonce, code := impl.SealNonce(wrong, other); nonce != "" || code != impl.ErrRange {
				t.Errorf("SealNonce of %d and %d is %x, %d", wrong, other, nonce, code)
			}
			if nonce, code := impl.SealNonce(other, wrong); nonce != "" || code != impl.ErrRange {
				t.Errorf("SealNonce of %d and %d is %x, %d", other, wrong, nonce, code)
			}
		}
	}
}

func TestP1KeysThatCanNotSeal(t *testing.T) {
	for _, key := range noSealKeys() {
		if a, b, code := impl.SealKeys(key); a != "" || b != "" || code != impl.ErrBad {
			t.Errorf("SealKeys of %d bytes is %x, %x, %d", len(key), a, b, code)
		}
		for _, c := range sealCalls() {
			for _, b := range someBytes(t) {
				c.answers(t, key, someNonce, nil, b, impl.ErrBad)
				c.answers(t, key, "short", []byte("extra"), b, impl.ErrBad)
			}
		}
	}
}

func TestP1NoncesThatCanNotSeal(t *testing.T) {
	for _, nonce := range noNonces() {
		for _, c := range sealCalls() {
			for _, b := range someBytes(t) {
				c.answers(t, sealKey, nonce, nil, b, impl.ErrBad)
				c.answers(t, sealKey, nonce, []byte("extra"), b, impl.ErrBad)
			}
			c.answers(t, sealKey, nonce, longBytes[:impl.MaxText], longBytes[:c.most], impl.ErrBad)
		}
	}
}

func TestP1TooFewBytesToOpen(t *testing.T) {
	x := []byte(sealed(t, sealKey, someNonce, "", ""))
	for n := range 16 {
		for _, extra := range [][]byte{nil, []byte("extra"), longBytes[:impl.MaxText]} {
			for _, b := range [][]byte{x[:n], x[16-n:], make([]byte, n)} {
				if y, code := impl.OpenBytes(sealKey, someNonce, extra, b); len(y) != 0 || code != impl.ErrForm {
					t.Errorf("OpenBytes of %d bytes is %d bytes, %d", n, len(y), code)
				}
			}
		}
	}
	if y, code := impl.OpenBytes(sealKey, someNonce, nil, make([]byte, 16)); len(y) != 0 || code != impl.ErrSealed {
		t.Errorf("OpenBytes of 16 noughts is %d bytes, %d", len(y), code)
	}
}

func TestP1WhatIsTooLongToSeal(t *testing.T) {
	for _, key := range []string{longText, longText + longText} {
		if a, b, code := impl.SealKeys(key); a != "" || b != "" || code != impl.ErrLong {
			t.Errorf("SealKeys of %d bytes is %x, %x, %d", len(key), a, b, code)
		}
	}
	for _, c := range sealCalls() {
		long := longBytes[:c.most+1]
		for _, key := range []string{sealKey, "", "short", longText[:31], longText[:33], longText} {
			for _, nonce := range []string{someNonce, "", longText[:11], longText[:13], longText} {
				for _, extra := range [][]byte{nil, []byte("extra"), longBytes} {
					c.answers(t, key, nonce, extra, long, impl.ErrLong)
					c.answers(t, key, nonce, extra, longBytes, impl.ErrLong)
				}
				for _, b := range someBytes(t) {
					c.answers(t, key, nonce, longBytes, b, impl.ErrLong)
				}
			}
			for _, b := range someBytes(t) {
				c.answers(t, key, longText, nil, b, impl.ErrLong)
				c.answers(t, longText, someNonce, nil, b, impl.ErrLong)
				c.answers(t, longText, "short", nil, b, impl.ErrLong)
			}
		}
	}
}

func TestP1TheMostThatIsSealed(t *testing.T) {
	for n := impl.MaxText - 15; n <= impl.MaxText+1; n++ {
		if x, code := impl.SealBytes(sealKey, someNonce, nil, longBytes[:n]); len(x) != 0 || code != impl.ErrLong {
			t.Errorf("SealBytes of %d bytes is %d bytes, %d", n, len(x), code)
		}
	}
	most := longBytes[:impl.MaxText]
	x, code := impl.SealBytes(sealKey, someNonce, most, most[:impl.MaxText-16])
	if len(x) != impl.MaxText || code != impl.OK {
		t.Fatalf("SealBytes of MaxText - 16 bytes is %d bytes, %d", len(x), code)
	}
	if b, code := impl.OpenBytes(sealKey, someNonce, most, x); !bytes.Equal(b, most[:impl.MaxText-16]) || code != impl.OK {
		t.Errorf("OpenBytes of MaxText bytes is %d bytes, %d", len(b), code)
	}
	if b, code := impl.OpenBytes(sealKey, someNonce, most, append(x, 0)); len(b) != 0 || code != impl.ErrLong {
		t.Errorf("OpenBytes of MaxText + 1 bytes is %d bytes, %d", len(b), code)
	}
	if b, code := impl.OpenBytes(sealKey, someNonce, nil, most); len(b) != 0 || code != impl.ErrSealed {
		t.Errorf("OpenBytes of MaxText bytes that are no seal is %d bytes, %d", len(b), code)
	}
}

func TestP1NothingIsSealedAsNothing(t *testing.T) {
	none := []byte{}
	want := sealed(t, sealKey, someNonce, "", "")
	for _, c := range [][2][]byte{{nil, nil}, {nil, none}, {none, nil}, {none, none}} {
		if x, code := impl.SealBytes(sealKey, someNonce, c[0], c[1]); string(x) != want || code != impl.OK {
			t.Errorf("SealBytes of nothing is %x, %d", x, code)
		}
		if b, code := impl.OpenBytes(sealKey, someNonce, c[0], []byte(want)); len(b) != 0 || code != impl.OK {
			t.Errorf("OpenBytes of nothing sealed is %x, %d", b, code)
		}
		if b, code := impl.OpenBytes(sealKey, someNonce, c[0], c[1]); len(b) != 0 || code != impl.ErrForm {
			t.Errorf("OpenBytes of nothing is %x, %d", b, code)
		}
	}
}

// sealedMemory holds an extra and then bytes to seal or to open, with room behind each end.
func sealedMemory(t *testing.T, name string, extraSize, n int, right bool) ([]byte, []byte, []byte) {
	t.Helper()
	s := stream(n)
	whole := []byte(s.text(200))
	extra, b := whole[:extraSize], whole[60:60+n]
	if right && name == "OpenBytes" {
		copy(b, sealed(t, sealKey, someNonce, string(extra), s.text(n-16)))
	}
	return whole, extra, b
}

func TestP1SealedBytesStayAsTheyWere(t *testing.T) {
	for _, c := range sealCalls() {
		for _, n := range []int{0, 1, 15, 16, 17, 31, 32, 33, 49, 80} {
			for _, extraSize := range []int{0, 1, 16, 33} {
				for _, right := range []bool{false, n >= 16} {
					whole, extra, b := sealedMemory(t, c.name, extraSize, n, right)
					was := bytes.Clone(whole)
					x, code := c.call(sealKey, someNonce, extra, b)
					if !bytes.Equal(whole, was) {
						t.Fatalf("%s of %d bytes beside %d changes them, %d", c.name, n, extraSize, code)
					}
					x = x[:cap(x)]
					for i := range x {
						x[i] ^= 0xff
					}
					x = append(x, 0xff)
					if !bytes.Equal(whole, was) {
						t.Fatalf("what %s answers to %d bytes is its argument's memory, %d", c.name, n, code)
					}
				}
			}
		}
	}
}

func TestP1ExtraMayBeWhatIsSealed(t *testing.T) {
	b := []byte("bytes of more than one block, and extra too")
	x, code := impl.SealBytes(sealKey, someNonce, b, b)
	if want := sealed(t, sealKey, someNonce, string(b), string(b)); string(x) != want || code != impl.OK {
		t.Errorf("SealBytes of what is extra, too, is %x, %d", x, code)
	}
	if y, code := impl.OpenBytes(sealKey, someNonce, x, x); len(y) != 0 || code != impl.ErrSealed {
		t.Errorf("OpenBytes of what is extra, too, is %x, %d", y, code)
	}
	if y, code := impl.OpenBytes(sealKey, someNonce, b, x); !bytes.Equal(y, b) || code != impl.OK {
		t.Errorf("OpenBytes is %x, %d", y, code)
	}
}

func TestP1AnswersOfSealsAreNewMemory(t *testing.T) {
	for _, c := range sealCalls() {
		_, extra, b := sealedMemory(t, c.name, 7, 40, true)
		x, code := c.call(sealKey, someNonce, extra, b)
		y, _ := c.call(sealKey, someNonce, extra, b)
		if code != impl.OK || len(x) == 0 || !bytes.Equal(x, y) {
			t.Fatalf("%s is %x, then %x, %d", c.name, x, y, code)
		}
		was := bytes.Clone(y)
		for i := range x {
			x[i]++
		}
		clear(extra)
		clear(b)
		if !bytes.Equal(y, was) {
			t.Errorf("an answer of %s is another's memory, or an argument's", c.name)
		}
	}
}

// everySealCall tells what each function of the seals answers to inputs drawn from a seed, wrong ones among them.
func everySealCall(seed stream) string {
	s := seed
	key := s.text([]int{32, 32, 32, 31, 33}[s.next()%5])
	nonce := s.text([]int{12, 12, 12, 12, 11, 13}[s.next()%6])
	extra, b := []byte(s.text(int(s.next())%40)), []byte(s.text(int(s.next())%70))
	var out []string
	tell := func(x any, code int) { out = append(out, fmt.Sprintf("%x %d", x, code)) }
	encrypts, tags, code := impl.SealKeys(key)
	tell(encrypts+tags, code)
	tell(impl.SealNonce(int(s.next())-20, int(s.next())<<25-100))
	x, code := impl.SealBytes(key, nonce, extra, b)
	tell(x, code)
	tell(impl.OpenBytes(key, nonce, extra, x))
	tell(impl.OpenBytes(key, nonce, extra, b))
	tell(impl.OpenBytes(key, nonce, nil, x))
	tell(impl.SealBytes(key, nonce, longBytes, b))
	return strings.Join(out, "\n")
}

func TestP1AlikeArgumentsHaveAlikeSeals(t *testing.T) {
	alikeAnswers(t, everySealCall)
}

func TestP1ManySealsAtOnce(t *testing.T) {
	alikeAtOnce(t, everySealCall)
}
