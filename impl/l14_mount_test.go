package impl

import (
	"errors"
	"testing"
)

func TestReplyToRecoversAllPanics(t *testing.T) {
	if r := replyTo(func() string { return "text" }); r != (VolumeReply{Text: "text"}) {
		t.Error("an act that ends well is told", r)
	}
	for code := range len(codeWords) {
		want := VolumeReply{Code: code}
		if r := replyTo(func() string { endUnlessOK(code); return "" }); r != want {
			t.Errorf("an act that ends with %d is told %v", code, r)
		}
	}
	var none []int
	for _, do := range []func() string{
		func() string { panic("another") },
		func() string { panic(7) },
		func() string { panic(errors.New("another")) },
		func() string { return string(rune(none[len(none)])) },
	} {
		if r := replyTo(do); r != (VolumeReply{Code: ErrBad}) {
			t.Error("an act that breaks off is told", r)
		}
	}
}
