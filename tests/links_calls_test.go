package tests

import (
	"fmt"
	"math"
	"slices"
	"strings"
	"testing"

	"loop.example/g00257/impl"
)

// noSeqs hold numbers that no packet has, the nearest and the farthest ones, and such as would be right if they were cut.
var noSeqs = []int{0, -1, lastSeq + 1, lastSeq + 2, -2, -lastSeq, 1<<32 + 1, 1<<32 + 7, -1<<32 + 7, 1 << 40, math.MinInt, math.MinInt + 1, math.MaxInt - 1, math.MaxInt}

// rightLinks are such, at the edges of Sent, Top and Window.
func rightLinks(t *testing.T) []impl.Link {
	t.Helper()
	var out []impl.Link
	for _, top := range topEdges {
		all := []int{}
		for back := 1; back < 32 && top-back >= 1; back++ {
			all = append(all, top-back)
		}
		for _, l := range []impl.Link{linkWith(t, top), linkWith(t, top, all...), linkWith(t, top, all[len(all)/2:]...)} {
			for _, sent := range []int{0, 1, lastSeq - 1, lastSeq} {
				l.Sent = sent
				out = append(out, l)
			}
		}
	}
	return out
}

// wrongLinks have one fault each, but for the last ones.
func wrongLinks(t *testing.T) []impl.Link {
	t.Helper()
	var out []impl.Link
	for _, key := range noSealKeys() {
		l := linkWith(t, 40, 39)
		l.Key = key
		out = append(out, l)
	}
	for _, n := range noSeqs {
		if n == 0 {
			continue
		}
		sent, top := linkWith(t, 40, 39), linkWith(t, 40, 39)
		sent.Sent, top.Top = n, n
		zero := newLink(t)
		zero.Sent = n
		bare := newLink(t)
		bare.Top = n
		out = append(out, sent, top, zero, bare)
	}
	for _, flags := range []int{0, 1, 31, 33, 64, 4096, 4097} {
		l := linkWith(t, 40)
		l.Window = make([]bool, flags)
		if flags > 0 {
			l.Window[0] = true
		}
		bare := newLink(t)
		bare.Window = make([]bool, flags)
		out = append(out, l, bare)
	}
	for _, top := range topEdges {
		l := linkWith(t, top)
		l.Window[0] = !l.Window[0]
		out = append(out, l)
		for back := max(1, top); back < 32; back++ {
			l := linkWith(t, top)
			l.Window[back] = true
			out = append(out, l)
		}
	}
	longKey := linkWith(t, 40)
	longKey.Key = longText
	return append(out, longKey, impl.Link{}, impl.Link{Key: longText, Sent: -1, Top: -1, Window: make([]bool, 33)})
}

func noLinkKey(t *testing.T, why, master string, from, to, life, want int) {
	t.Helper()
	if key, code := impl.LinkKey(master, from, to, life); key != "" || code != want {
		t.Errorf("%s: LinkKey of %d bytes, %d, %d, %d is %x, %d, not %d", why, len(master), from, to, life, key, code, want)
	}
}

func noTag(t *testing.T, why, key string, seq int, body string, want int) {
	t.Helper()
	if tag, code := impl.PacketTag(key, seq, body); tag != "" || code != want {
		t.Errorf("%s: PacketTag of %d bytes, %d, %d bytes is %x, %d, not %d", why, len(key), seq, len(body), tag, code, want)
	}
}

// sendsNothing wants is beside the code: an empty link, or the link as it was.
func sendsNothing(t *testing.T, why string, l impl.Link, body string, is impl.Link, want int) {
	t.Helper()
	if x, p, code := impl.LinkSend(l, body); linkText(x) != linkText(is) || p != (impl.Packet{}) || code != want {
		t.Errorf("%s: LinkSend of %.200s and %d bytes is %.200s, Seq %d, %d, not %d", why, linkText(l), len(body), linkText(x), p.Seq, code, want)
	}
}

func takesNothing(t *testing.T, why string, l impl.Link, p impl.Packet) {
	t.Helper()
	if x, code := impl.LinkTake(l, p); linkText(x) != linkText(impl.Link{}) || code != impl.ErrBad {
		t.Errorf("%s: LinkTake of %.200s and Seq %d is %.200s, %d", why, linkText(l), p.Seq, linkText(x), code)
	}
}

func TestP1RightLinks(t *testing.T) {
	if impl.MaxBack != 32 {
		t.Error("MaxBack is", impl.MaxBack)
	}
	for _, l := range rightLinks(t) {
		if !impl.LinkOK(l) {
			t.Errorf("LinkOK of %s is false", linkText(l))
		}
	}
	for _, l := range wrongLinks(t) {
		if impl.LinkOK(l) {
			t.Errorf("LinkOK of %.300s is true", linkText(l))
		}
	}
}

func TestP1LinksThatHaveNoKey(t *testing.T) {
	for _, master := range append(noSealKeys(), sealKey) {
		for _, n := range append(slices.Clone(noByte), 0, 255) {
			for _, life := range append(slices.Clone(noWord), 0, math.MaxUint32) {
				switch {
				case len(master) != 32:
					noLinkKey(t, "no master", master, n, 0, life, impl.ErrBad)
					noLinkKey(t, "no master", master, 255, n, life, impl.ErrBad)
				case n != 0 && n != 255 || life != 0 && life != math.MaxUint32:
					noLinkKey(t, "no from", master, n, 0, life, impl.ErrRange)
					noLinkKey(t, "no to", master, 255, n, life, impl.ErrRange)
				}
			}
		}
	}
	for _, master := range []string{longText, longText + longText} {
		noLinkKey(t, "long", master, 1, 2, 3, impl.ErrLong)
		noLinkKey(t, "long", master, -1, 256, -1, impl.ErrLong)
	}
}

func TestP1KeysThatMakeNoLink(t *testing.T) {
	for _, key := range append(noSealKeys(), longText, longText+longText) {
		want := impl.ErrBad
		if len(key) > impl.MaxText {
			want = impl.ErrLong
		}
		if l, code := impl.NewLink(key); linkText(l) != linkText(impl.Link{}) || code != want {
			t.Errorf("NewLink of %d bytes is %.200s, %d, not %d", len(key), linkText(l), code, want)
		}
	}
}

func TestP1PacketsThatHaveNoTag(t *testing.T) {
	for _, key := range append(noSealKeys(), sealKey) {
		for _, seq := range append([]int{1, lastSeq}, noSeqs...) {
			for _, body := range []string{"", "body", longText[:impl.MaxText]} {
				switch {
				case len(key) != 32:
					noTag(t, "no key", key, seq, body, impl.ErrBad)
				case seq < 1 || seq > lastSeq:
					noTag(t, "no seq", key, seq, body, impl.ErrRange)
				}
			}
			noTag(t, "a long body", key, seq, longText, impl.ErrLong)
			noTag(t, "a longer body", key, seq, longText+longText, impl.ErrLong)
		}
	}
	for _, seq := range []int{1, 0, lastSeq, lastSeq + 1} {
		noTag(t, "a long key", longText, seq, "body", impl.ErrLong)
		noTag(t, "both long", longText, seq, longText, impl.ErrLong)
	}
}

func TestP1LinksThatSendNothing(t *testing.T) {
	for _, l := range wrongLinks(t) {
		for _, body := range []string{"", "body", longText[:impl.MaxText]} {
			sendsNothing(t, "not right", l, body, impl.Link{}, impl.ErrBad)
		}
		sendsNothing(t, "not right, and long", l, longText, impl.Link{}, impl.ErrLong)
		l.Sent = lastSeq
		if l.Key != sealKey {
			sendsNothing(t, "not right, and spent", l, "body", impl.Link{}, impl.ErrBad)
		}
	}
	for _, l := range rightLinks(t) {
		sendsNothing(t, "long", l, longText, impl.Link{}, impl.ErrLong)
		sendsNothing(t, "longer", l, longText+longText, impl.Link{}, impl.ErrLong)
		x, p, code := impl.LinkSend(l, "body")
		if l.Sent < lastSeq && (code != impl.OK || p.Seq != l.Sent+1 || x.Sent != l.Sent+1) {
			t.Errorf("LinkSend of Sent %d is Seq %d, %d", l.Sent, p.Seq, code)
		}
		l.Sent = lastSeq
		for _, body := range []string{"", "body", longText[:impl.MaxText]} {
			sendsNothing(t, "spent", l, body, l, impl.ErrSpent)
		}
	}
	l := newLink(t)
	l.Sent = lastSeq - 1
	x, p, code := impl.LinkSend(l, "the last one")
	if code != impl.OK || p != packetByRule(sealKey, lastSeq, "the last one") || x.Sent != lastSeq {
		t.Errorf("LinkSend of the last packet is Seq %d, %d", p.Seq, code)
	}
	sendsNothing(t, "behind the last one", x, "", x, impl.ErrSpent)
}

func TestP1LinksThatTakeNothing(t *testing.T) {
	for _, l := range wrongLinks(t) {
		for _, seq := range []int{1, 8, 9, 40, 41, lastSeq, 0, -1, lastSeq + 1, math.MinInt, math.MaxInt} {
			right := packetByRule(l.Key, seq, "body")
			takesNothing(t, "a right packet", l, right)
			right.Tag = ""
			takesNothing(t, "no Tag", l, right)
		}
		takesNothing(t, "a long packet", l, impl.Packet{Seq: 41, Body: longText, Tag: longText})
		takesNothing(t, "an empty packet", l, impl.Packet{})
	}
}

func TestP1PacketsInTheOrderOfTheirFaults(t *testing.T) {
	for _, l := range rightLinks(t) {
		for _, seq := range noSeqs {
			p := packetByRule(sealKey, seq, "body")
			refusesPacket(t, "a right Tag", l, p, impl.ErrRange)
			p.Tag = ""
			refusesPacket(t, "no Tag", l, p, impl.ErrRange)
			refusesPacket(t, "a long one", l, impl.Packet{Seq: seq, Body: longText, Tag: longText}, impl.ErrRange)
		}
		for _, seq := range []int{l.Top - 32, l.Top - 31, l.Top, l.Top + 1, 1, lastSeq} {
			if seq < 1 || seq > lastSeq {
				continue
			}
			p := packetByRule(sealKey, seq, "body")
			p.Tag = withBit(p.Tag, 127)
			refusesPacket(t, "another Tag", l, p, impl.ErrSealed)
		}
		if l.Top > 32 {
			refusesPacket(t, "behind", l, packetByRule(sealKey, l.Top-32, "body"), impl.ErrOrder)
			refusesPacket(t, "far behind", l, packetByRule(sealKey, 1, "body"), impl.ErrOrder)
		}
		if l.Top > 0 {
			refusesPacket(t, "again", l, packetByRule(sealKey, l.Top, "body"), impl.ErrReplay)
		}
	}
}

// roomyLink has another flag behind the end of its Window; the answer tells all of its memory.
func roomyLink(l impl.Link) (impl.Link, func() string) {
	whole := append(slices.Clone(l.Window), true, false, true)
	l.Window = whole[:len(l.Window)]
	return l, func() string { return fmt.Sprint(whole) }
}

func TestP1LinksStayAsTheyWere(t *testing.T) {
	for _, start := range append(rightLinks(t), wrongLinks(t)...) {
		top := max(1, min(start.Top, lastSeq))
		for _, seq := range []int{0, max(1, top-32), max(1, top-31), max(1, top-1), top, min(lastSeq, top+1), min(lastSeq, top+40)} {
			l, whole := roomyLink(start)
			was, text := whole(), linkText(l)
			p := packetByRule(l.Key, seq, "body")
			impl.LinkOK(l)
			x, sent, sendCode := impl.LinkSend(l, "body")
			y, takeCode := impl.LinkTake(l, p)
			if whole() != was || linkText(l) != text {
				t.Fatalf("a call changes %.200s: %d, %d", text, sendCode, takeCode)
			}
			again, _, _ := impl.LinkSend(l, "body")
			more, _ := impl.LinkTake(l, p)
			want := linkText(again) + linkText(more)
			for _, flags := range [][]bool{x.Window, y.Window} {
				for i := range flags[:cap(flags)] {
					flags[:cap(flags)][i] = !flags[:cap(flags)][i]
				}
			}
			if whole() != was || linkText(again)+linkText(more) != want {
				t.Fatalf("what a call, %d, %d, answers is another's memory, or its argument's", sendCode, takeCode)
			}
			clear(l.Window)
			if linkText(again)+linkText(more) != want {
				t.Fatalf("what a call, %d, %d, Seq %d, answers is its argument's memory", sendCode, takeCode, sent.Seq)
			}
		}
	}
	a, b := newLink(t), newLink(t)
	a.Window[0] = true
	if b.Window[0] || newLink(t).Window[0] {
		t.Error("two new links have one memory")
	}
}

// everyLinkCall tells what each function of the links answers to inputs drawn from a seed, wrong ones among them.
func everyLinkCall(seed stream) string {
	s := seed
	var out []string
	tell := func(x any, code int) { out = append(out, fmt.Sprintf("%x %d", x, code)) }
	master := s.text([]int{32, 32, 32, 32, 31, 33}[s.next()%6])
	key, code := impl.LinkKey(master, int(s.next())-1, int(s.next())+s.column()[0]/250, int(s.next())-1)
	tell(key, code)
	l, code := impl.NewLink(key)
	tell(linkText(l), code)
	other := l
	for range 40 {
		x, p, code := impl.LinkSend(l, s.text(int(s.next())%50))
		tell(linkText(x)+fmt.Sprint(p), code)
		if code == impl.OK {
			l = x
		}
		if s.next() < 20 {
			l.Sent += int(s.next())
		}
		if s.next() < 60 {
			p.Seq -= int(s.next()) % 40
			p.Tag, _ = impl.PacketTag(key, p.Seq, p.Body)
		}
		y, code := impl.LinkTake(other, p)
		tell(linkText(y), code)
		other = y
		if s.next() < 3 {
			other.Top++
		}
	}
	return fmt.Sprint(impl.LinkOK(l), impl.LinkOK(other)) + strings.Join(out, "\n")
}

func TestP1AlikeArgumentsHaveAlikeLinks(t *testing.T) {
	alikeAnswers(t, everyLinkCall)
}

func TestP1ManyLinksAtOnce(t *testing.T) {
	alikeAtOnce(t, everyLinkCall)
}
