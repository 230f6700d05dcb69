package tests

import (
	"encoding/binary"
	"fmt"
	"slices"
	"strings"
	"testing"

	"loop.example/g00257/impl"
)

const lastSeq = 1000000

var (
	seqEdges = []int{1, 2, 3, 31, 32, 33, 64, 255, 256, 257, 65535, 65536, 65537, 1 << 19, lastSeq - 33, lastSeq - 32, lastSeq - 1, lastSeq}

	bodySizes = []int{0, 1, 2, 51, 52, 55, 56, 59, 60, 61, 63, 64, 65, 200, 1000, impl.MaxText - 5, impl.MaxText - 4, impl.MaxText - 3, impl.MaxText - 1, impl.MaxText}

	topEdges = []int{0, 1, 2, 3, 15, 16, 17, 30, 31, 32, 33, 34, 63, 64, 65, 100, 256, 65536, lastSeq - 65, lastSeq - 33, lastSeq - 32, lastSeq - 31, lastSeq - 1, lastSeq}
)

func fourBytes(n int) string {
	return string(binary.BigEndian.AppendUint32(nil, uint32(n)))
}

// packetByRule is tagged by the library, so that a test may hand in what no link sends.
func packetByRule(key string, seq int, body string) impl.Packet {
	return impl.Packet{Seq: seq, Body: body, Tag: hmacByLibrary(key, fourBytes(seq)+body)[:16]}
}

func linkText(l impl.Link) string {
	return fmt.Sprintf("%x %d %d %v", l.Key, l.Sent, l.Top, l.Window)
}

func newLink(t *testing.T) impl.Link {
	t.Helper()
	l, code := impl.NewLink(sealKey)
	if code != impl.OK {
		t.Fatal("NewLink is", code)
	}
	return l
}

// windowByRule tells of come whether each of the last packets up to top is among it.
func windowByRule(top int, come ...int) []bool {
	out := make([]bool, 32)
	for _, seq := range come {
		if back := top - seq; back >= 0 && back < 32 {
			out[back] = true
		}
	}
	return out
}

// linkWith has Top and, of the packets up to it, those that have come.
func linkWith(t *testing.T, top int, come ...int) impl.Link {
	t.Helper()
	if top != 0 {
		come = append(come, top)
	}
	l := impl.Link{Key: sealKey, Top: top, Window: windowByRule(top, come...)}
	if !impl.LinkOK(l) {
		t.Fatalf("a link with Top %d and %v is not right", top, come)
	}
	return l
}

// receiver is what a link should be, kept as the plainest thing: all that has come.
type receiver struct {
	link impl.Link
	come []int
}

func (r *receiver) code(seq int) int {
	switch {
	case seq <= r.link.Top-32:
		return impl.ErrOrder
	case slices.Contains(r.come, seq):
		return impl.ErrReplay
	}
	return impl.OK
}

func (r *receiver) takes(t *testing.T, p impl.Packet) int {
	t.Helper()
	want := r.code(p.Seq)
	x, code := impl.LinkTake(r.link, p)
	if code != want {
		t.Fatalf("LinkTake of %d with Top %d and %v is %d, not %d", p.Seq, r.link.Top, r.come, code, want)
	}
	if want == impl.OK {
		r.come = append(r.come, p.Seq)
	}
	top := 0
	if len(r.come) > 0 {
		top = slices.Max(r.come)
	}
	is := impl.Link{Key: r.link.Key, Sent: r.link.Sent, Top: top, Window: windowByRule(top, r.come...)}
	if linkText(x) != linkText(is) || !impl.LinkOK(x) {
		t.Fatalf("LinkTake of %d, %d, is %s, not %s", p.Seq, code, linkText(x), linkText(is))
	}
	r.link = x
	return code
}

// sentPackets are the first n of a new link, all of which the rule has, too.
func sentPackets(t *testing.T, n int) []impl.Packet {
	t.Helper()
	l := newLink(t)
	var out []impl.Packet
	for i := range n {
		x, p, code := impl.LinkSend(l, fmt.Sprint("body ", i))
		if code != impl.OK || p != packetByRule(sealKey, i+1, fmt.Sprint("body ", i)) {
			t.Fatalf("LinkSend is Seq %d, %q, tag %x, %d", p.Seq, p.Body, p.Tag, code)
		}
		l = x
		out = append(out, p)
	}
	return out
}

func TestP8KeysAreAsTheRuleHasThem(t *testing.T) {
	s := stream(81)
	seen := map[string]string{}
	for _, from := range []int{0, 1, 2, 127, 128, 254, 255} {
		for _, to := range []int{0, 1, 2, 127, 128, 254, 255} {
			for _, life := range wordEdges {
				key, code := impl.LinkKey(sealKey, from, to, life)
				want := hmacByLibrary(sealKey, "link"+string([]byte{byte(from), byte(to)})+fourBytes(life))
				if key != want || len(key) != 32 || code != impl.OK {
					t.Fatalf("LinkKey of %d, %d, %d is %x, %d", from, to, life, key, code)
				}
				if other := seen[key]; other != "" {
					t.Fatalf("%d, %d, %d has the key of %s", from, to, life, other)
				}
				seen[key] = fmt.Sprint(from, to, life)
			}
		}
	}
	for range 50 {
		master := s.text(32)
		if key, code := impl.LinkKey(master, 1, 2, 3); key != hmacByLibrary(master, "link\x01\x02\x00\x00\x00\x03") || code != impl.OK {
			t.Fatalf("LinkKey by %x is %x, %d", master, key, code)
		}
	}
}

func TestP8TagsAreAsTheRuleHasThem(t *testing.T) {
	s := stream(82)
	for _, size := range bodySizes {
		body := s.text(size)
		for _, seq := range []int{1, 256, lastSeq} {
			want := packetByRule(sealKey, seq, body).Tag
			if tag, code := impl.PacketTag(sealKey, seq, body); tag != want || code != impl.OK {
				t.Fatalf("PacketTag of %d and %d bytes is %x, %d", seq, size, tag, code)
			}
		}
	}
	for _, seq := range seqEdges {
		key := s.text(32)
		if tag, code := impl.PacketTag(key, seq, "body"); tag != packetByRule(key, seq, "body").Tag || len(tag) != 16 || code != impl.OK {
			t.Fatalf("PacketTag of %d is %x, %d", seq, tag, code)
		}
	}
}

func TestP8ANewLink(t *testing.T) {
	s := stream(83)
	for range 20 {
		key := s.text(32)
		l, code := impl.NewLink(key)
		if code != impl.OK || linkText(l) != linkText(impl.Link{Key: key, Window: make([]bool, 32)}) {
			t.Fatalf("NewLink is %s, %d", linkText(l), code)
		}
	}
}

func TestP8PacketsAreSentOneAfterAnother(t *testing.T) {
	for _, sent := range []int{0, 1, 31, 32, 255, 65535, lastSeq - 5} {
		for _, top := range []int{0, 1, 33, lastSeq} {
			l := linkWith(t, top)
			l.Sent = sent
			for i, size := range []int{0, 3, impl.MaxText, 1, 60} {
				body := longText[:size]
				x, p, code := impl.LinkSend(l, body)
				want := l
				want.Sent = sent + i + 1
				if code != impl.OK || p != packetByRule(sealKey, want.Sent, body) || linkText(x) != linkText(want) {
					t.Fatalf("LinkSend of Sent %d is %s, Seq %d, %d bytes, %x, %d", l.Sent, linkText(x), p.Seq, len(p.Body), p.Tag, code)
				}
				l = x
			}
		}
	}
}

// Sent tells nothing of what comes, and Top nothing of what is sent: the other end has numbers of its own.
func TestP8SendingAndTakingDoNotMeet(t *testing.T) {
	a, b := newLink(t), newLink(t)
	for i := range 50 {
		x, p, code := impl.LinkSend(a, "to b")
		y, took := impl.LinkTake(b, p)
		if code != impl.OK || took != impl.OK || x.Sent != i+1 || x.Top != i/2 || y.Top != i+1 || y.Sent != i/2 {
			t.Fatalf("packet %d from a is %d, then %d: %s, %s", i, code, took, linkText(x), linkText(y))
		}
		a, b = x, y
		if i%2 == 0 {
			continue
		}
		x, p, code = impl.LinkSend(b, "to a")
		y, took = impl.LinkTake(a, p)
		if code != impl.OK || took != impl.OK || x.Sent != i/2+1 || y.Top != i/2+1 || y.Sent != i+1 {
			t.Fatalf("packet %d from b is %d, then %d: %s, %s", i, code, took, linkText(x), linkText(y))
		}
		a, b = y, x
	}
	for _, top := range topEdges {
		l := linkWith(t, top)
		l.Sent = lastSeq
		if x, code := impl.LinkTake(l, packetByRule(sealKey, lastSeq, "b")); code != (&receiver{l, []int{top}}).code(lastSeq) || x.Sent != lastSeq {
			t.Errorf("LinkTake of a link that is spent is %s, %d", linkText(x), code)
		}
	}
}

func TestP8PacketsInOrder(t *testing.T) {
	r := &receiver{link: newLink(t)}
	packets := sentPackets(t, 150)
	for i, p := range packets {
		if code := r.takes(t, p); code != impl.OK {
			t.Fatalf("packet %d is %d", i, code)
		}
		if code := r.takes(t, p); code != impl.ErrReplay {
			t.Fatalf("packet %d again is %d", i, code)
		}
	}
	for i, p := range packets {
		want := impl.ErrOrder
		if i >= 150-32 {
			want = impl.ErrReplay
		}
		if code := r.takes(t, p); code != want {
			t.Fatalf("packet %d at the end is %d", p.Seq, code)
		}
	}
}

// Whatever the order of a window's packets is, each is taken, and once.
func TestP8PacketsInOtherOrders(t *testing.T) {
	packets := sentPackets(t, 32)
	s := stream(84)
	for range 100 {
		order := slices.Clone(packets)
		for i := range order {
			j := int(s.next()) % (i + 1)
			order[i], order[j] = order[j], order[i]
		}
		r := &receiver{link: newLink(t)}
		for _, p := range order {
			if code := r.takes(t, p); code != impl.OK {
				t.Fatalf("packet %d is %d", p.Seq, code)
			}
		}
		for _, p := range order {
			if code := r.takes(t, p); code != impl.ErrReplay {
				t.Fatalf("packet %d again is %d", p.Seq, code)
			}
		}
	}
	r := &receiver{link: newLink(t)}
	for i := 31; i >= 0; i-- {
		if code := r.takes(t, packets[i]); code != impl.OK {
			t.Fatalf("packet %d is %d", packets[i].Seq, code)
		}
	}
}

func TestP8EveryOrderOfAFew(t *testing.T) {
	var orders func(done, left []int)
	count := 0
	orders = func(done, left []int) {
		if len(left) == 0 {
			count++
			r := &receiver{link: newLink(t)}
			for _, seq := range slices.Concat(done, done) {
				r.takes(t, packetByRule(sealKey, seq, "b"))
			}
		}
		for i := range left {
			rest := slices.Delete(slices.Clone(left), i, i+1)
			orders(append(slices.Clone(done), left[i]), rest)
		}
	}
	orders(nil, []int{1, 2, 31, 32, 33, 34})
	orders(nil, []int{1, 32, 33, 64, 65})
	if count != 720+120 {
		t.Fatal(count, "orders")
	}
}

// Packets near one another, again and again, some never: none is taken twice, and none is lost that is not too far behind.
func TestP8WhateverComes(t *testing.T) {
	for seed := range 60 {
		s := stream(seed)
		r := &receiver{link: newLink(t)}
		around := 1
		for range 120 {
			around += int(s.next()) % 4
			if s.next() < 8 {
				around += []int{31, 32, 33, 64, 65, 256, 5000}[s.next()%7]
			}
			seq := max(1, around+int(s.next())%80-50)
			r.takes(t, packetByRule(sealKey, seq, s.text(int(s.next())%5)))
		}
		sorted := slices.Sorted(slices.Values(r.come))
		if len(slices.Compact(sorted)) != len(r.come) {
			t.Fatalf("seed %d: %v have come", seed, r.come)
		}
	}
}

func TestP8BothEndsOfTheWindow(t *testing.T) {
	for _, top := range topEdges {
		for _, seq := range []int{top - 1000, top - 65, top - 64, top - 63, top - 34, top - 33, top - 32, top - 31, top - 30, top - 2, top - 1, top, top + 1, top + 2, top + 30, top + 31, top + 32, top + 33, top + 63, top + 64, top + 65, top + 256, top + 65536, top + 1<<19, 1, lastSeq} {
			if seq < 1 || seq > lastSeq {
				continue
			}
			for _, come := range [][]int{nil, {top - 1}, {top - 31}, {top - 1, top - 30, top - 31}, {top - 16}} {
				come = slices.DeleteFunc(slices.Clone(come), func(seq int) bool { return seq < 1 })
				r := &receiver{linkWith(t, top, come...), come}
				if top > 0 {
					r.come = append(r.come, top)
				}
				r.takes(t, packetByRule(sealKey, seq, "b"))
				r.takes(t, packetByRule(sealKey, seq, "another one of the same number"))
			}
		}
	}
}

// Each window of a few flags, and each packet around it.
func TestP8EveryPacketAroundAWindow(t *testing.T) {
	s := stream(85)
	for _, top := range []int{0, 1, 5, 31, 32, 33, 40, 70, lastSeq - 3, lastSeq} {
		for range 6 {
			var come []int
			for back := range 32 {
				if seq := top - back; seq >= 1 && (back == 0 || s.next() < 128) {
					come = append(come, seq)
				}
			}
			for seq := max(1, top-70); seq <= min(lastSeq, top+70); seq++ {
				r := &receiver{linkWith(t, top, come...), slices.Clone(come)}
				r.takes(t, packetByRule(sealKey, seq, "b"))
			}
		}
	}
}

func TestP8TooFarBehind(t *testing.T) {
	r := &receiver{link: newLink(t)}
	for _, c := range []struct{ seq, code int }{
		{100, impl.OK}, {68, impl.ErrOrder}, {69, impl.OK}, {69, impl.ErrReplay}, {101, impl.OK}, {69, impl.ErrOrder},
		{70, impl.OK}, {100, impl.ErrReplay}, {132, impl.OK}, {100, impl.ErrOrder}, {101, impl.ErrReplay}, {102, impl.OK},
		{lastSeq, impl.OK}, {132, impl.ErrOrder}, {lastSeq - 32, impl.ErrOrder}, {lastSeq - 31, impl.OK}, {lastSeq, impl.ErrReplay}, {1, impl.ErrOrder}, {lastSeq - 1, impl.OK},
	} {
		if code := r.takes(t, packetByRule(sealKey, c.seq, "b")); code != c.code {
			t.Errorf("packet %d is %d, not %d", c.seq, code, c.code)
		}
	}
	first := &receiver{link: newLink(t)}
	for _, seq := range []int{32, 1, 33, 2} {
		if code := first.takes(t, packetByRule(sealKey, seq, "b")); code != impl.OK {
			t.Errorf("packet %d is %d", seq, code)
		}
	}
	if code := first.takes(t, packetByRule(sealKey, 1, "b")); code != impl.ErrOrder {
		t.Errorf("packet 1 behind 33 is %d", code)
	}
}

func TestP8TwoLinksOfOneKey(t *testing.T) {
	one, two := &receiver{link: newLink(t)}, &receiver{link: newLink(t)}
	packets := sentPackets(t, 40)
	for _, p := range packets {
		if one.takes(t, p) != impl.OK {
			t.Fatal("the first link does not take", p.Seq)
		}
	}
	for i := len(packets) - 1; i >= 8; i-- {
		if two.takes(t, packets[i]) != impl.OK {
			t.Fatal("the second link does not take", packets[i].Seq)
		}
	}
	if two.takes(t, packets[7]) != impl.ErrOrder || one.takes(t, packets[39]) != impl.ErrReplay {
		t.Error("a link goes by what another one took")
	}
}

// refusesPacket wants the link as it was, which takes the right packet behind it still.
func refusesPacket(t *testing.T, why string, l impl.Link, p impl.Packet, want int) {
	t.Helper()
	x, code := impl.LinkTake(l, p)
	if code != want || linkText(x) != linkText(l) {
		t.Errorf("%s: LinkTake of Seq %d, %d bytes, tag %x is %s, %d, not %d", why, p.Seq, len(p.Body), p.Tag, linkText(x), code, want)
	}
}

func TestP8AChangedPacketStaysSealed(t *testing.T) {
	for _, l := range []impl.Link{newLink(t), linkWith(t, 7), linkWith(t, 6, 5), linkWith(t, 40, 12), linkWith(t, lastSeq)} {
		right := packetByRule(sealKey, 7, "body")
		for bit := range 8 * 16 {
			p := right
			p.Tag = withBit(p.Tag, bit)
			refusesPacket(t, "its Tag", l, p, impl.ErrSealed)
		}
		for bit := range 8 * 4 {
			p := right
			p.Body = withBit(p.Body, bit)
			refusesPacket(t, "its Body", l, p, impl.ErrSealed)
		}
		for _, seq := range append([]int{6, 8, 7 + 256, 7 + 65536}, seqEdges...) {
			p := right
			p.Seq = seq
			refusesPacket(t, "its Seq", l, p, impl.ErrSealed)
		}
		whole := hmacByLibrary(sealKey, fourBytes(7)+"body")
		for _, tag := range []string{"", whole[:1], whole[:15], whole[:17], whole, whole[16:], right.Tag + right.Tag, strings.Repeat("\x00", 16), longText, right.Tag + longText} {
			p := right
			p.Tag = tag
			refusesPacket(t, "another Tag", l, p, impl.ErrSealed)
		}
		for _, body := range []string{"", "bod", "body ", "body\x00", "\x00body", "Body", longText} {
			p := right
			p.Body = body
			refusesPacket(t, "another Body", l, p, impl.ErrSealed)
		}
		refusesPacket(t, "another key", l, packetByRule(withBit(sealKey, 255), 7, "body"), impl.ErrSealed)
		moved := right
		moved.Body, moved.Seq = "\x07body", lastSeq
		refusesPacket(t, "bytes that went over", l, moved, impl.ErrSealed)
	}
	l := newLink(t)
	forged := packetByRule(sealKey, 7, "body")
	forged.Tag = withBit(forged.Tag, 3)
	l, _ = impl.LinkTake(l, forged)
	if l, code := impl.LinkTake(l, packetByRule(sealKey, 7, "body")); code != impl.OK || l.Top != 7 {
		t.Errorf("the right packet behind a forged one is %s, %d", linkText(l), code)
	}
}

// A packet's Body is no argument of its own: what has the right Tag is taken, however long it is.
func TestP8BodiesOfAnyLength(t *testing.T) {
	for i, size := range append(bodySizes, impl.MaxText+1, 2*impl.MaxText+7) {
		body := strings.Repeat("b", size)
		r := &receiver{link: linkWith(t, 5)}
		r.come = []int{5}
		if code := r.takes(t, packetByRule(sealKey, 6+i, body)); code != impl.OK {
			t.Errorf("a Body of %d bytes is %d", size, code)
		}
	}
}

func TestP8LinksOfOtherLives(t *testing.T) {
	keys := []string{}
	for _, c := range [][3]int{{1, 2, 3}, {2, 1, 3}, {1, 2, 4}, {1, 3, 3}, {0, 0, 0}} {
		key, code := impl.LinkKey(sealKey, c[0], c[1], c[2])
		if code != impl.OK {
			t.Fatal("LinkKey is", code)
		}
		keys = append(keys, key)
	}
	for i, from := range keys {
		l, _ := impl.NewLink(from)
		_, p, _ := impl.LinkSend(l, "body")
		for j, to := range keys {
			want := impl.ErrSealed
			if i == j {
				want = impl.OK
			}
			other, _ := impl.NewLink(to)
			if _, code := impl.LinkTake(other, p); code != want {
				t.Errorf("a packet of life %d is %d to %d", i, code, j)
			}
		}
	}
}
