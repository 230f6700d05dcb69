package tests

import (
	"encoding/hex"
	"math"
	"strings"
	"testing"

	"loop.example/g00257/impl"
)

// noByte holds numbers that are no bytes, the nearest and the farthest ones.
var noByte = []int{-1, 256, -255, -256, 257, 512, math.MinInt, math.MaxInt, math.MinInt + 1, 1 << 32, -1 << 32}

var longText = strings.Repeat("a", impl.MaxText+1)

func unhex(t *testing.T, s string) string {
	t.Helper()
	b, err := hex.DecodeString(s)
	if err != nil {
		t.Fatal(err)
	}
	return string(b)
}

// stream tells bytes that look like noise and are the same in every run.
type stream uint64

func (s *stream) next() byte {
	*s = *s*6364136223846793005 + 1442695040888963407
	return byte(*s >> 56)
}

func (s *stream) text(n int) string {
	b := make([]byte, n)
	for i := range b {
		b[i] = s.next()
	}
	return string(b)
}

func (s *stream) column() []int {
	return []int{int(s.next()), int(s.next()), int(s.next()), int(s.next())}
}

// alikeAnswers calls with many seeds, then with the same ones in the other order.
func alikeAnswers(t *testing.T, call func(seed stream) string) {
	t.Helper()
	var first []string
	for i := range 300 {
		first = append(first, call(stream(i)))
	}
	for i := 299; i >= 0; i-- {
		if again := call(stream(i)); again != first[i] {
			t.Fatalf("answers hang on what was called ahead:\n%s\n%s", first[i], again)
		}
	}
}

func alikeAtOnce(t *testing.T, call func(seed stream) string) {
	t.Helper()
	want := call(1)
	got := make([]string, 16)
	done := make(chan int)
	for i := range got {
		go func() {
			got[i] = call(1)
			done <- i
		}()
	}
	for range got {
		<-done
	}
	for _, g := range got {
		if g != want {
			t.Fatal("answers hang on what is called meanwhile")
		}
	}
}
