package tests

import (
	"math"
	"strings"
	"testing"

	"loop.example/g00257/impl"
)

func TestP1CodesAndWords(t *testing.T) {
	all := []struct {
		number, constant int
		word             string
	}{
		{0, impl.OK, "ok"}, {1, impl.ErrBad, "bad"}, {2, impl.ErrLong, "long"}, {3, impl.ErrForm, "form"},
		{4, impl.ErrRange, "range"}, {5, impl.ErrNone, "none"}, {6, impl.ErrMany, "many"}, {7, impl.ErrFull, "full"},
		{8, impl.ErrSum, "sum"}, {9, impl.ErrTwice, "twice"}, {10, impl.ErrSealed, "sealed"}, {11, impl.ErrStale, "stale"},
		{12, impl.ErrCorrupt, "corrupt"}, {13, impl.ErrAway, "away"}, {14, impl.ErrReplay, "replay"}, {15, impl.ErrOrder, "order"},
		{16, impl.ErrPath, "path"}, {17, impl.ErrKind, "kind"}, {18, impl.ErrQuorum, "quorum"}, {19, impl.ErrSpent, "spent"},
	}
	for _, c := range all {
		if c.constant != c.number {
			t.Errorf("the constant of %s is %d", c.word, c.constant)
		}
		if w := impl.CodeWord(c.number); w != c.word {
			t.Errorf("CodeWord(%d) is %q", c.number, w)
		}
		if n := impl.CodeOf(c.word); n != c.number {
			t.Errorf("CodeOf(%q) is %d", c.word, n)
		}
	}
}

func TestP1NumbersAndWordsThatAreNoCode(t *testing.T) {
	for _, n := range []int{-1, 20, 21, 256, math.MinInt, math.MaxInt} {
		if w := impl.CodeWord(n); w != "" {
			t.Errorf("CodeWord(%d) is %q", n, w)
		}
	}
	words := []string{"", " ", "OK", "Ok", "ok ", " ok", "o", "okk", "ba", "badd", "ok\x00", "okbad", "0", "-1", "ErrBad", longText, strings.Repeat("ok", impl.MaxText)}
	for _, w := range words {
		if n := impl.CodeOf(w); n != -1 {
			t.Errorf("CodeOf of a text of %d bytes is %d", len(w), n)
		}
	}
}

func TestP1Names(t *testing.T) {
	right := []string{"a", "z", "A", "Z", "_", "a0", "_9", "aZ_09", "__", strings.Repeat("x", 39), strings.Repeat("x", 40), "_" + strings.Repeat("9", 39)}
	for _, n := range right {
		if !impl.NameOK(n) {
			t.Errorf("NameOK(%q) is false", n)
		}
	}
	wrong := []string{"", "0", "9a", " ", "a ", " a", "a-b", "a/b", "a.b", "a\x00", "\x00", "é", "a\xff", "1_", strings.Repeat("x", 41), longText, strings.Repeat("x", 39) + "-"}
	for _, n := range wrong {
		if impl.NameOK(n) {
			t.Errorf("NameOK of %q (%d bytes) is true", n[:min(len(n), 50)], len(n))
		}
	}
}

func TestP1EveryByteOfAName(t *testing.T) {
	for c := range 256 {
		b := string([]byte{byte(c)})
		letter := strings.Contains("abcdefghijklmnopqrstuvwxyzABCDEFGHIJKLMNOPQRSTUVWXYZ_", b)
		digit := strings.Contains("0123456789", b)
		if impl.NameOK(b) != letter {
			t.Errorf("NameOK of the byte %d alone is %v", c, !letter)
		}
		if impl.NameOK("x"+b) != (letter || digit) {
			t.Errorf("NameOK of x and the byte %d is %v", c, !(letter || digit))
		}
	}
}

func TestP1Bounds(t *testing.T) {
	if impl.MaxText != 65536 || impl.MaxList != 4096 || impl.MaxName != 40 || impl.BlockSize != 16 {
		t.Error("a bound is not the document's")
	}
}
