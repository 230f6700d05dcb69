package tests

import (
	"fmt"
	"slices"
	"strings"
	"testing"

	"loop.example/g00257/impl"
)

const (
	someKey   = "0123456789abcdef"
	someBlock = "fedcba9876543210"
)

func TestP1BytesOutOfRange(t *testing.T) {
	for _, a := range noByte {
		for _, other := range []int{0, 1, 255, -1, 256} {
			if n, code := impl.GfMul(a, other); n != 0 || code != impl.ErrRange {
				t.Errorf("GfMul(%d, %d) is %d, %d", a, other, n, code)
			}
			if n, code := impl.GfMul(other, a); n != 0 || code != impl.ErrRange {
				t.Errorf("GfMul(%d, %d) is %d, %d", other, a, n, code)
			}
		}
		if n, code := impl.GfInverse(a); n != 0 || code != impl.ErrRange {
			t.Errorf("GfInverse(%d) is %d, %d", a, n, code)
		}
		if n, code := impl.SubByte(a); n != 0 || code != impl.ErrRange {
			t.Errorf("SubByte(%d) is %d, %d", a, n, code)
		}
		if n, code := impl.UnsubByte(a); n != 0 || code != impl.ErrRange {
			t.Errorf("UnsubByte(%d) is %d, %d", a, n, code)
		}
		for i := range 4 {
			col := []int{0, 1, 2, 255}
			col[i] = a
			if m, code := impl.MixColumn(col); len(m) != 0 || code != impl.ErrRange {
				t.Errorf("MixColumn(%v) is %v, %d", col, m, code)
			}
		}
	}
}

func TestP1EdgesOfBytes(t *testing.T) {
	if n, code := impl.GfMul(255, 255); n != 0x13 || code != impl.OK {
		t.Errorf("GfMul(255, 255) is %#x, %d", n, code)
	}
	if n, code := impl.GfMul(0, 255); n != 0 || code != impl.OK {
		t.Errorf("GfMul(0, 255) is %d, %d", n, code)
	}
	if n, code := impl.GfInverse(0); n != 0 || code != impl.ErrNone {
		t.Errorf("GfInverse(0) is %d, %d", n, code)
	}
	if n, code := impl.GfInverse(1); n != 1 || code != impl.OK {
		t.Errorf("GfInverse(1) is %d, %d", n, code)
	}
	if n, code := impl.GfInverse(255); n != 0x1c || code != impl.OK {
		t.Errorf("GfInverse(255) is %#x, %d", n, code)
	}
}

func TestP1ListsOfOtherThanFour(t *testing.T) {
	for _, n := range []int{0, 1, 3, 5, 16, impl.MaxList} {
		for _, a := range []int{0, -1, 256} { // ErrBad stands ahead of ErrRange
			col := slices.Repeat([]int{a}, n)
			if m, code := impl.MixColumn(col); len(m) != 0 || code != impl.ErrBad {
				t.Errorf("MixColumn of %d times %d is %v, %d", n, a, m, code)
			}
		}
	}
	if m, code := impl.MixColumn(nil); len(m) != 0 || code != impl.ErrBad {
		t.Errorf("MixColumn(nil) is %v, %d", m, code)
	}
	for _, a := range []int{0, -1} {
		if m, code := impl.MixColumn(slices.Repeat([]int{a}, impl.MaxList+1)); len(m) != 0 || code != impl.ErrLong {
			t.Errorf("MixColumn of a list that is too long is %v, %d", m, code)
		}
	}
}

func TestP1KeysOfOtherLengths(t *testing.T) {
	for n := range 66 {
		key := strings.Repeat("k", n)
		want, keys := impl.ErrBad, 0
		if n == 16 {
			want, keys = impl.OK, 11
		}
		if n == 32 {
			want, keys = impl.OK, 15
		}
		list, code := impl.KeySchedule(key)
		if code != want || len(list) != keys {
			t.Errorf("KeySchedule of %d bytes is %d keys, %d", n, len(list), code)
		}
		for _, k := range list {
			if len(k) != impl.BlockSize {
				t.Errorf("KeySchedule of %d bytes has a key of %d bytes", n, len(k))
			}
		}
		for name, call := range blockCalls() {
			x, code := call(key, someBlock)
			if code != want || want == impl.OK && len(x) != impl.BlockSize || want != impl.OK && x != "" {
				t.Errorf("%s with a key of %d bytes is %q, %d", name, n, x, code)
			}
		}
	}
	if list, code := impl.KeySchedule(longText[:impl.MaxText]); len(list) != 0 || code != impl.ErrBad {
		t.Errorf("KeySchedule of MaxText bytes is %d keys, %d", len(list), code)
	}
	if list, code := impl.KeySchedule(longText); len(list) != 0 || code != impl.ErrLong {
		t.Errorf("KeySchedule of a text that is too long is %d keys, %d", len(list), code)
	}
}

func TestP1BlocksOfOtherLengths(t *testing.T) {
	cases := []struct {
		key, block string
		want       int
	}{
		{someKey, "", impl.ErrBad},
		{someKey, someBlock[:15], impl.ErrBad},
		{someKey, someBlock + "x", impl.ErrBad},
		{someKey, someBlock + someBlock, impl.ErrBad},
		{"", "", impl.ErrBad},
		{someKey, longText[:impl.MaxText], impl.ErrBad},
		{longText[:impl.MaxText], someBlock, impl.ErrBad},
		{someKey, longText, impl.ErrLong},
		{longText, someBlock, impl.ErrLong},
		{"short", longText, impl.ErrLong},
		{longText, "short", impl.ErrLong},
		{longText, longText, impl.ErrLong},
	}
	for name, call := range blockCalls() {
		for _, c := range cases {
			if x, code := call(c.key, c.block); x != "" || code != c.want {
				t.Errorf("%s of %d and %d bytes is %q, %d", name, len(c.key), len(c.block), x, code)
			}
		}
	}
}

func blockCalls() map[string]func(key, block string) (string, int) {
	return map[string]func(key, block string) (string, int){"EncryptBlock": impl.EncryptBlock, "DecryptBlock": impl.DecryptBlock}
}

func TestP1ArgumentsStayAsTheyWere(t *testing.T) {
	whole := []int{7, 0xdb, 0x13, 0x53, 0x45, 8, 9}
	was := slices.Clone(whole)
	m, code := impl.MixColumn(whole[1:5]) // with room behind its end
	if code != impl.OK || !slices.Equal(whole, was) {
		t.Errorf("MixColumn left %v, %d", whole, code)
	}
	m = append(m[:0], 1, 2, 3, 4)
	m = append(m, 5, 6)
	if !slices.Equal(whole, was) {
		t.Errorf("what MixColumn answers is its argument's memory: %v, %v", whole, m)
	}
	bad := []int{1, 2, 3, 256}
	if _, code := impl.MixColumn(bad); code != impl.ErrRange || !slices.Equal(bad, []int{1, 2, 3, 256}) {
		t.Errorf("MixColumn left %v, %d", bad, code)
	}
}

func TestP1AnswersAreNewMemory(t *testing.T) {
	col := []int{1, 2, 3, 4}
	a, _ := impl.MixColumn(col)
	b, _ := impl.MixColumn(col)
	a[0]++
	if a[0] == b[0] {
		t.Error("two answers of MixColumn share memory")
	}
	k, _ := impl.KeySchedule(someKey)
	l, _ := impl.KeySchedule(someKey)
	k[0] = ""
	if l[0] != someKey {
		t.Error("two answers of KeySchedule share memory")
	}
}

// everyCall tells in one text what each function of this stage answers to inputs drawn from a seed.
func everyCall(seed stream) string {
	s := seed
	a, b := int(s.next())*2-128, int(s.next())*2-128
	key := s.text([]int{16, 32, 31, 0}[s.next()%4])
	block := s.text([]int{16, 16, 16, 17}[s.next()%4])
	col := s.column()
	var out []string
	tell := func(x any, code int) { out = append(out, fmt.Sprintf("%v %d", x, code)) }
	tell(impl.GfMul(a, b))
	tell(impl.GfInverse(a))
	tell(impl.SubByte(a))
	tell(impl.UnsubByte(b))
	tell(impl.MixColumn(col))
	tell(impl.KeySchedule(key))
	tell(impl.EncryptBlock(key, block))
	tell(impl.DecryptBlock(key, block))
	tell(impl.NameOK(block), 0)
	tell(impl.CodeWord(a), 0)
	tell(impl.CodeOf(impl.CodeWord(b%24)), 0)
	return strings.Join(out, "\n")
}

func TestP1AlikeArgumentsHaveAlikeAnswers(t *testing.T) {
	alikeAnswers(t, everyCall)
}

func TestP1ManyAtOnce(t *testing.T) {
	alikeAtOnce(t, everyCall)
}
