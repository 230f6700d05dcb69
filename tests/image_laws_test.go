package tests

import (
	"fmt"
	"slices"
	"strings"
	"testing"

	"loop.example/g00257/impl"
)

const (
	pieceBytes  = 64
	mostPieces  = 16
	mostImage   = 1024
	lastVersion = 65535
)

var (
	imageSizes = []int{0, 1, 2, 63, 64, 65, 127, 128, 129, 500, 959, 960, 961, 1022, 1023, 1024}

	versionEdges = []int{1, 2, 127, 128, 255, 256, 257, 32767, 32768, 65534, 65535}

	pieceSizes = []int{1, 2, 15, 16, 17, 31, 32, 33, 48, 62, 63, 64}
)

// piecesByRule takes 64 bytes off an image as long as more are left.
func piecesByRule(image string) []string {
	var out []string
	for len(image) > pieceBytes {
		out = append(out, image[:pieceBytes])
		image = image[pieceBytes:]
	}
	if image != "" {
		out = append(out, image)
	}
	return out
}

// piecesOf are so many pieces that all differ, the last one of so many bytes.
func piecesOf(count, last int) []string {
	var out []string
	for i := range count {
		out = append(out, numbered(37*i, pieceBytes))
	}
	if count > 0 {
		out[count-1] = out[count-1][:last]
	}
	return out
}

func pieceText(list []string) string { return fmt.Sprintf("%d pieces %.300x", len(list), list) }

func cutImage(t *testing.T, image string) []string {
	t.Helper()
	list, code := impl.CutImage([]byte(image))
	if code != impl.OK || !slices.Equal(list, piecesByRule(image)) {
		t.Fatalf("CutImage of %d bytes is %s, %d", len(image), pieceText(list), code)
	}
	return list
}

func joinsTo(t *testing.T, list []string, image string) {
	t.Helper()
	if b, code := impl.JoinImage(list); string(b) != image || code != impl.OK {
		t.Fatalf("JoinImage of %s is %d bytes, %.300x, %d", pieceText(list), len(b), b, code)
	}
}

func dirtyPieces(t *testing.T, was, now []string) []int {
	t.Helper()
	dirty, code := impl.DirtyPieces(was, now)
	if code != impl.OK {
		t.Fatalf("DirtyPieces of %s and %s is %d", pieceText(was), pieceText(now), code)
	}
	return dirty
}

func dirtyIs(t *testing.T, why string, was, now []string, want ...int) {
	t.Helper()
	if dirty := dirtyPieces(t, was, now); !slices.Equal(dirty, want) {
		t.Errorf("%s: DirtyPieces is %v, not %v", why, dirty, want)
	}
}

// pieceByRule seals by the library whatever it is given, so that a test may hand in what is no piece.
func pieceByRule(t *testing.T, key, extra string, place, version int, text string) string {
	t.Helper()
	encrypts, tags := keysByRule(t, key)
	return sealedByRule(t, encrypts, tags, fourBytes(0)+fourBytes(place)+fourBytes(version), extra, text)
}

func sealedPiece(t *testing.T, key string, place, version int, piece string) string {
	t.Helper()
	x, code := impl.SealPiece(key, place, version, piece)
	if code != impl.OK || len(x) != len(piece)+16 {
		t.Fatalf("SealPiece of %d bytes at %d, version %d, is %d bytes, %d", len(piece), place, version, len(x), code)
	}
	return x
}

func opensPiece(t *testing.T, key string, place, version int, x, want string) {
	t.Helper()
	if piece, code := impl.OpenPiece(key, place, version, x); piece != want || code != impl.OK {
		t.Fatalf("OpenPiece of %d bytes at %d, version %d, is %x, %d, not %x", len(x), place, version, piece, code, want)
	}
}

func pieceStaysSealed(t *testing.T, why, key string, place, version int, x string) {
	t.Helper()
	if piece, code := impl.OpenPiece(key, place, version, x); piece != "" || code != impl.ErrSealed {
		t.Errorf("%s: OpenPiece of %d bytes at %d, version %d, is %x, %d", why, len(x), place, version, piece, code)
	}
}

// superOf has a Place for each piece of so many bytes, in blocks from the first one on.
func superOf(size, first, version int) impl.Super {
	s := impl.Super{Size: size, Root: rootText(size)}
	for i := range (size + 63) / 64 {
		s.Places = append(s.Places, impl.Place{Block: first + i, Version: version})
	}
	return s
}

func someSuper(s *stream) impl.Super {
	size := 1 + (int(s.next())<<8|int(s.next()))%mostImage
	out := impl.Super{Size: size, Root: s.text(32)}
	block := int(s.next()) % 62
	step := []int{1, 3, 5, 7, 61}[s.next()%5] // by such steps all 62 blocks come ahead of one that came
	for range (size + 63) / 64 {
		out.Places = append(out.Places, impl.Place{Block: 2 + block, Version: max(1, int(s.next())<<8|int(s.next()))})
		block = (block + step) % 62
	}
	return out
}

// superByRule has the bytes of a super, also of one that is not right, as far as its numbers fit.
func superByRule(s impl.Super) string {
	out := twoBytes(s.Size)
	for _, p := range s.Places {
		out += string([]byte{byte(p.Block)}) + twoBytes(p.Version)
	}
	return out + s.Root
}

func superText(s impl.Super) string {
	return fmt.Sprintf("%d bytes at %d places %v, %.80q of %d", s.Size, len(s.Places), s.Places[:min(17, len(s.Places))], s.Root, len(s.Root))
}

// superIsRight asks for each of the chapter's conditions by itself.
func superIsRight(s impl.Super) bool {
	blocks := map[int]bool{}
	right := s.Size >= 1 && s.Size <= mostImage && len(s.Root) == 32 && s.Size > 64*(len(s.Places)-1) && s.Size <= 64*len(s.Places)
	for _, p := range s.Places {
		right = right && p.Block >= 2 && p.Block <= 63 && p.Version >= 1 && p.Version <= lastVersion && !blocks[p.Block]
		blocks[p.Block] = true
	}
	return right
}

// rightSupers are of 1 to 16 pieces, at the edges of all their numbers.
func rightSupers() []impl.Super {
	out := []impl.Super{
		{Size: 1, Places: []impl.Place{{Block: 2, Version: 1}}, Root: strings.Repeat("\x00", 32)},
		{Size: 64, Places: []impl.Place{{Block: 63, Version: lastVersion}}, Root: strings.Repeat("\xff", 32)},
		{Size: 65, Places: []impl.Place{{Block: 63, Version: 1}, {Block: 2, Version: lastVersion}}, Root: rootText(1)},
	}
	for _, size := range imageSizes[1:] {
		count := (size + 63) / 64
		out = append(out, superOf(size, 2, 1), superOf(size, 64-count, lastVersion), superOf(size, 20, 256))
		down := superOf(size, 30, 255)
		slices.Reverse(down.Places)
		out = append(out, down)
	}
	s := stream(1212)
	for range 60 {
		out = append(out, someSuper(&s))
	}
	return out
}

func sameSuper(a, b impl.Super) bool {
	return a.Size == b.Size && a.Root == b.Root && slices.Equal(a.Places, b.Places)
}

func superReadBack(t *testing.T, s impl.Super) {
	t.Helper()
	if !impl.SuperOK(s) || !superIsRight(s) {
		t.Fatalf("SuperOK of %s is false", superText(s))
	}
	b, code := impl.SuperBytes(s)
	if string(b) != superByRule(s) || code != impl.OK {
		t.Fatalf("SuperBytes of %s is %x, %d", superText(s), b, code)
	}
	if back, code := impl.ReadSuper(b); !sameSuper(back, s) || code != impl.OK {
		t.Fatalf("ReadSuper of what SuperBytes made of %s is %s, %d", superText(s), superText(back), code)
	}
}

func TestP13PieceCountsByHand(t *testing.T) {
	if impl.PieceSize != pieceBytes || impl.MaxPieces != mostPieces {
		t.Error("PieceSize and MaxPieces are", impl.PieceSize, impl.MaxPieces)
	}
	for size, want := range map[int]int{0: 0, 1: 1, 2: 1, 63: 1, 64: 1, 65: 2, 127: 2, 128: 2, 129: 3, 192: 3, 193: 4, 512: 8, 513: 9, 959: 15, 960: 15, 961: 16, 1023: 16, 1024: 16} {
		if n, code := impl.PieceCount(size); n != want || code != impl.OK {
			t.Errorf("PieceCount of %d is %d, %d", size, n, code)
		}
	}
}

func TestP13ImagesCutByHand(t *testing.T) {
	a, b := strings.Repeat("a", 64), strings.Repeat("b", 64)
	for image, want := range map[string][]string{
		"": nil, "x": {"x"}, "\x00": {"\x00"}, a[:63]: {a[:63]}, a: {a}, a + "b": {a, "b"}, a + b[:63]: {a, b[:63]}, a + b: {a, b}, a + b + "\x00": {a, b, "\x00"},
		strings.Repeat(a, 16):            slices.Repeat([]string{a}, 16),
		strings.Repeat(a, 15) + b[:63]:   append(slices.Repeat([]string{a}, 15), b[:63]),
		strings.Repeat(a, 15) + "\x80":   append(slices.Repeat([]string{a}, 15), "\x80"),
		strings.Repeat(a, 15):            slices.Repeat([]string{a}, 15),
		strings.Repeat("\x00", 130):      {strings.Repeat("\x00", 64), strings.Repeat("\x00", 64), "\x00\x00"},
		strings.Repeat("\u00e4", 40):     {strings.Repeat("\u00e4", 32), strings.Repeat("\u00e4", 8)},
		"x" + strings.Repeat("\xc3", 64): {"x" + strings.Repeat("\xc3", 63), "\xc3"},
	} {
		list, code := impl.CutImage([]byte(image))
		if !slices.Equal(list, want) || code != impl.OK {
			t.Errorf("CutImage of %q is %q, %d", image, list, code)
		}
		joinsTo(t, want, image)
	}
}

func TestP13ImagesOfEachSizeAreJoinedAgain(t *testing.T) {
	s := stream(1313)
	for size := range mostImage + 1 {
		for _, image := range []string{s.text(size), numbered(size, size), strings.Repeat("\x00", size)} {
			list := cutImage(t, image)
			joinsTo(t, list, image)
			if n, code := impl.PieceCount(size); n != len(list) || code != impl.OK {
				t.Fatalf("PieceCount of %d is %d, %d, and there are %d", size, n, code, len(list))
			}
		}
	}
}

// The other way round: whatever are pieces are those of what they are joined to.
func TestP13PiecesAreCutAgain(t *testing.T) {
	for count := 1; count <= mostPieces; count++ {
		for last := 1; last <= pieceBytes; last++ {
			list := piecesOf(count, last)
			b, code := impl.JoinImage(list)
			if code != impl.OK || len(b) != 64*(count-1)+last {
				t.Fatalf("JoinImage of %s is %d bytes, %d", pieceText(list), len(b), code)
			}
			if again := cutImage(t, string(b)); !slices.Equal(again, list) {
				t.Fatalf("%s are cut to %s once they are joined", pieceText(list), pieceText(again))
			}
		}
	}
	joinsTo(t, nil, "")
	joinsTo(t, []string{}, "")
}

func TestP13DirtyPiecesByHand(t *testing.T) {
	a, b, c := strings.Repeat("a", 64), strings.Repeat("b", 64), strings.Repeat("c", 64)
	dirtyIs(t, "nothing", nil, nil)
	dirtyIs(t, "all is new", nil, []string{a, b, "c"}, 0, 1, 2)
	dirtyIs(t, "one that is new", nil, []string{"a"}, 0)
	dirtyIs(t, "all went", []string{a, b, "c"}, nil)
	dirtyIs(t, "the same", []string{a, b, c}, []string{a, b, c})
	dirtyIs(t, "the same, the last one short", []string{a, b, "c"}, []string{a, b, "c"})
	dirtyIs(t, "the first one", []string{a, b, c}, []string{b, b, c}, 0)
	dirtyIs(t, "the middle one", []string{a, b, c}, []string{a, c, c}, 1)
	dirtyIs(t, "the last one", []string{a, b, c}, []string{a, b, a}, 2)
	dirtyIs(t, "turned around", []string{a, b, c}, []string{b, c, a}, 0, 1, 2)
	dirtyIs(t, "two changed places", []string{a, b, c}, []string{c, b, a}, 0, 2)
	dirtyIs(t, "fewer", []string{a, b, c}, []string{a, b})
	dirtyIs(t, "fewer, one changed", []string{a, b, c}, []string{c, b}, 0)
	dirtyIs(t, "more", []string{a, b}, []string{a, b, c}, 2)
	dirtyIs(t, "more, one changed", []string{a, b}, []string{a, c, c, "d"}, 1, 2, 3)
	dirtyIs(t, "more, like those that were", []string{a}, []string{a, a, a}, 1, 2)
	dirtyIs(t, "a longer last one", []string{a, b[:10]}, []string{a, b[:11]}, 1)
	dirtyIs(t, "a shorter last one", []string{a, b[:10]}, []string{a, b[:9]}, 1)
	dirtyIs(t, "the last one filled up", []string{a, b[:63]}, []string{a, b}, 1)
	dirtyIs(t, "the last one cut", []string{a, b}, []string{a, b[:1]}, 1)
	dirtyIs(t, "the last one filled up, and one more", []string{a, b[:63]}, []string{a, b, "c"}, 1, 2)
	dirtyIs(t, "noughts behind", []string{"x"}, []string{"x\x00"}, 0)
	dirtyIs(t, "the last byte alone", []string{a, b}, []string{a, b[:63] + "c"}, 1)
	dirtyIs(t, "moved on by a piece", []string{a, b}, []string{c, a, b}, 0, 1, 2)
	dirtyIs(t, "the last one of sixteen", piecesOf(16, 64), piecesOf(16, 63), 15)
	dirtyIs(t, "sixteen at once", piecesOf(16, 64), slices.Repeat([]string{strings.Repeat("!", 64)}, 16), 0, 1, 2, 3, 4, 5, 6, 7, 8, 9, 10, 11, 12, 13, 14, 15)
}

// patched puts the dirty pieces of now over those of was, as one does who keeps the others.
func patched(was, now []string, dirty []int) []string {
	out := make([]string, len(now))
	copy(out, was)
	for _, at := range dirty {
		out[at] = now[at]
	}
	return out
}

func dirtyWillDo(t *testing.T, was, now []string) {
	t.Helper()
	dirty := dirtyPieces(t, was, now)
	if !slices.Equal(patched(was, now, dirty), now) {
		t.Fatalf("with the pieces %v of %s, %s are not these", dirty, pieceText(now), pieceText(was))
	}
	for i, at := range dirty {
		if i > 0 && dirty[i-1] >= at || at < len(was) && was[at] == now[at] {
			t.Fatalf("%v are not the dirty pieces of %s and %s", dirty, pieceText(was), pieceText(now))
		}
	}
}

func TestP13AnImageIsKeptByItsDirtyPieces(t *testing.T) {
	for _, from := range imageSizes {
		for _, to := range imageSizes {
			dirtyWillDo(t, cutImage(t, numbered(0, from)), cutImage(t, numbered(0, to)))
			dirtyWillDo(t, cutImage(t, numbered(0, from)), cutImage(t, numbered(1, to)))
			dirtyWillDo(t, cutImage(t, strings.Repeat("\x00", from)), cutImage(t, strings.Repeat("\x00", to)))
		}
	}
	for _, size := range imageSizes[1:] {
		image := numbered(5, size)
		for bit := 0; bit < 8*size; bit += 13 {
			dirtyIs(t, "one bit", cutImage(t, image), cutImage(t, withBit(image, bit)), bit/8/64)
		}
	}
}

// An image that is changed, grown and cut over and over: its pieces are kept by their dirty ones alone.
func TestP13LongRunsOfAnImage(t *testing.T) {
	for seed := range 20 {
		s := stream(seed)
		image, kept := "", []string(nil)
		for range 60 {
			switch s.next() % 4 {
			case 0:
				image = image[:int(s.next())*len(image)/256]
			case 1:
				image += s.text(min(int(s.next()), mostImage-len(image)))
			case 2:
				image = image[:len(image)/64*64]
			case 3:
				if image != "" {
					image = withBit(image, int(s.next())*8*len(image)/256)
				}
			}
			now := cutImage(t, image)
			kept = patched(kept, now, dirtyPieces(t, kept, now))
			joinsTo(t, kept, image)
		}
	}
}

// Worked out by another program than this one and the library that the other tests ask.
func TestP13PiecesSealedElsewhere(t *testing.T) {
	key := numbered(0, 32)
	for _, c := range []struct {
		place, version int
		piece, want    string
	}{
		{0, 1, "p", "396cfcb3658837efa039cb3d0684cb49bd"},
		{7, 258, "a piece", "2edf05b030ec9779f2718d87dbc4c1ccce1bd53ff7715d"},
		{15, 65535, numbered(0, 64), "c1ea5be78ec56bf70b4b0d42c4898a59ac8d180f4b3415d767838e34e078f0739e433c734ddc161bd2e0565813592eeefb7ed09d3f2bfbdd9d131803a3eec18417be05e585251c44288daa42408d02a5"},
	} {
		if x := sealedPiece(t, key, c.place, c.version, c.piece); x != unhex(t, c.want) {
			t.Errorf("SealPiece of %x at %d, version %d, is %x", c.piece, c.place, c.version, x)
		}
		opensPiece(t, key, c.place, c.version, unhex(t, c.want), c.piece)
	}
}

func TestP13SealedPiecesOpen(t *testing.T) {
	s := stream(1300)
	for place := range mostPieces {
		for i, version := range versionEdges {
			key, piece := s.text(32), s.text(pieceSizes[(place+i)%len(pieceSizes)])
			x := sealedPiece(t, key, place, version, piece)
			if want := pieceByRule(t, key, "piece", 16+place, version, piece); x != want {
				t.Fatalf("SealPiece of %x at %d, version %d, is %x, not %x", piece, place, version, x, want)
			}
			opensPiece(t, key, place, version, x, piece)
		}
	}
	for size := 1; size <= pieceBytes; size++ {
		piece := numbered(size, size)
		opensPiece(t, sealKey, 3, size, sealedPiece(t, sealKey, 3, size, piece), piece)
	}
}

func TestP13AnImageIsSealedAndPutTogetherAgain(t *testing.T) {
	s := stream(131)
	for _, size := range imageSizes {
		image := s.text(size)
		var opened []string
		for place, piece := range cutImage(t, image) {
			x := sealedPiece(t, sealKey, place, 1+size, piece)
			if len(x) > impl.MaxBlock {
				t.Fatalf("what is sealed of %d bytes has no room in a block", len(piece))
			}
			back, code := impl.OpenPiece(sealKey, place, 1+size, x)
			if code != impl.OK {
				t.Fatalf("OpenPiece at %d is %d", place, code)
			}
			opened = append(opened, back)
		}
		joinsTo(t, opened, image)
	}
}

func TestP13PiecesOpenAtTheirPlaceAndVersionAlone(t *testing.T) {
	for _, place := range []int{0, 1, 7, 14, 15} {
		for _, version := range []int{1, 2, 256, 65534, 65535} {
			x := sealedPiece(t, sealKey, place, version, "piece")
			for other := range mostPieces {
				if other != place {
					pieceStaysSealed(t, "another place", sealKey, other, version, x)
				}
			}
			for _, other := range versionEdges {
				if other != version {
					pieceStaysSealed(t, "another version", sealKey, place, other, x)
				}
			}
			for bit := range 8 {
				pieceStaysSealed(t, "another key", withBit(sealKey, 36*bit), place, version, x)
			}
		}
	}
	pieceStaysSealed(t, "place and version changed", sealKey, 3, 5, sealedPiece(t, sealKey, 5, 3, "piece"))
}

func TestP13PiecesThatWereChangedStaySealed(t *testing.T) {
	for _, size := range []int{1, 16, 64} {
		x := sealedPiece(t, sealKey, 2, 3, numbered(9, size))
		for i := range len(x) {
			pieceStaysSealed(t, "a byte changed", sealKey, 2, 3, withBit(x, 8*i+i%8))
			pieceStaysSealed(t, "cut short", sealKey, 2, 3, x[:i])
			pieceStaysSealed(t, "cut short ahead", sealKey, 2, 3, x[i+1:])
			pieceStaysSealed(t, "a byte taken out", sealKey, 2, 3, x[:i]+x[i+1:])
		}
		for _, more := range []string{"\x00", "x", longText[:16], x, longText[:impl.MaxText-len(x)]} {
			pieceStaysSealed(t, "longer", sealKey, 2, 3, x+more)
			pieceStaysSealed(t, "longer ahead", sealKey, 2, 3, more+x)
		}
	}
	for _, x := range []string{"", "x", longText[:15], longText[:16], longText[:17], longText[:80], longText[:81], longText[:200], longText[:impl.MaxText]} {
		pieceStaysSealed(t, "nothing that was sealed", sealKey, 2, 3, x)
	}
}

// What has a right tag is no piece if it is empty or too long, or if it was sealed as something else.
func TestP13WhatIsNoPieceStaysSealed(t *testing.T) {
	for place := range mostPieces {
		for _, size := range []int{0, 65, 66, 80, 128, 170, 200, 1000, impl.MaxText - 16} {
			if place%5 == 0 || size < 100 {
				pieceStaysSealed(t, "no piece's bytes", sealKey, place, 9, pieceByRule(t, sealKey, "piece", 16+place, 9, longText[:size]))
			}
		}
		opensPiece(t, sealKey, place, 9, pieceByRule(t, sealKey, "piece", 16+place, 9, longText[:64]), longText[:64])
		opensPiece(t, sealKey, place, 9, pieceByRule(t, sealKey, "piece", 16+place, 9, "x"), "x")
		for _, extra := range []string{"", "slot", "block", "Piece", "piece ", "piec", "pieces"} {
			pieceStaysSealed(t, "another extra", sealKey, place, 9, pieceByRule(t, sealKey, extra, 16+place, 9, "piece"))
		}
		for _, other := range []int{place, 15 + place, 17 + place, 32 + place, 16 - place - 1} {
			pieceStaysSealed(t, "another nonce", sealKey, place, 9, pieceByRule(t, sealKey, "piece", other, 9, "piece"))
		}
	}
	slot := slotBytes(t, 0, 9, "piece")
	pieceStaysSealed(t, "a slot", sealKey, 0, 9, slot)
	pieceStaysSealed(t, "a slot without its Epoch", sealKey, 0, 9, slot[4:])
}

func TestP13NoTwoPiecesAreSealedAlike(t *testing.T) {
	was := map[string]string{}
	for place := range mostPieces {
		for _, version := range versionEdges {
			x := sealedPiece(t, sealKey, place, version, strings.Repeat("\x00", 64))
			now := fmt.Sprint(place, version)
			for _, part := range []string{x[:16], x[48:64], x[64:]} {
				if other, twice := was[part]; twice {
					t.Errorf("%s and %s have %x in common", now, other, part)
				}
				was[part] = now
			}
		}
	}
}

func TestP13BytesOfSupersWorkedOutByHand(t *testing.T) {
	root := rootText(5)
	hexRoot := fmt.Sprintf("%x", root)
	for want, s := range map[string]impl.Super{
		"0001" + "020001" + hexRoot:            {Size: 1, Places: []impl.Place{{Block: 2, Version: 1}}, Root: root},
		"0040" + "3fffff" + hexRoot:            {Size: 64, Places: []impl.Place{{Block: 63, Version: 65535}}, Root: root},
		"0041" + "3f0100" + "020102" + hexRoot: {Size: 65, Places: []impl.Place{{Block: 63, Version: 256}, {Block: 2, Version: 258}}, Root: root},
		"0400" + strings.Join([]string{"0a00ff", "0b00ff", "0c00ff", "0d00ff", "0e00ff", "0f00ff", "1000ff", "1100ff", "1200ff", "1300ff", "1400ff", "1500ff", "1600ff", "1700ff", "1800ff", "1900ff"}, "") + strings.Repeat("00", 32): {
			Size: 1024, Places: superOf(1024, 10, 255).Places, Root: strings.Repeat("\x00", 32)},
	} {
		if b, code := impl.SuperBytes(s); fmt.Sprintf("%x", b) != want || code != impl.OK {
			t.Errorf("SuperBytes of %s is %x, %d", superText(s), b, code)
		}
		if back, code := impl.ReadSuper([]byte(unhex(t, want))); !sameSuper(back, s) || code != impl.OK {
			t.Errorf("ReadSuper of %s is %s, %d", want, superText(back), code)
		}
	}
}

func TestP13SupersAreReadBack(t *testing.T) {
	for _, s := range rightSupers() {
		superReadBack(t, s)
	}
	for size := 1; size <= mostImage; size++ {
		superReadBack(t, superOf(size, 2+size%47, 1+64*(size-1)+size%60))
	}
	for block := 2; block <= 63; block++ {
		superReadBack(t, impl.Super{Size: 9, Places: []impl.Place{{Block: block, Version: block}}, Root: rootText(block)})
	}
	for _, version := range versionEdges {
		for at := range mostPieces {
			s := superOf(mostImage, 2, 7)
			s.Places[at].Version = version
			superReadBack(t, s)
		}
	}
	s := stream(133)
	for range 500 {
		superReadBack(t, someSuper(&s))
	}
}

// The super of the greatest image has room in a slot.
func TestP13SupersFitIntoSlots(t *testing.T) {
	b, code := impl.SuperBytes(superOf(mostImage, 2, 1))
	if len(b) != 2+16*3+32 || len(b) > impl.MaxSlot || code != impl.OK {
		t.Errorf("SuperBytes of 16 pieces has %d bytes, %d", len(b), code)
	}
}

func TestP13OtherSupersHaveOtherBytes(t *testing.T) {
	seen := map[string]string{}
	for _, s := range rightSupers() {
		b, _ := impl.SuperBytes(s)
		text := fmt.Sprint(s)
		if was, there := seen[string(b)]; there && was != text {
			t.Errorf("%s and %s have the same bytes", was, text)
		}
		seen[string(b)] = text
	}
}

func freeIs(t *testing.T, why string, s impl.Super, blocks int, want ...int) {
	t.Helper()
	if free, code := impl.FreeBlocks(s, blocks); !slices.Equal(free, want) || code != impl.OK {
		t.Errorf("%s: FreeBlocks of %s, %d, is %v, %d, not %v", why, superText(s), blocks, free, code, want)
	}
}

func TestP13FreeBlocksByHand(t *testing.T) {
	one := impl.Super{Size: 1, Places: []impl.Place{{Block: 2, Version: 1}}, Root: rootText(1)}
	freeIs(t, "a slot alone", one, 1)
	freeIs(t, "slots alone", one, 2)
	freeIs(t, "all taken", one, 3)
	freeIs(t, "one behind", one, 4, 3)
	freeIs(t, "six behind", one, 9, 3, 4, 5, 6, 7, 8)
	last := impl.Super{Size: 1, Places: []impl.Place{{Block: 63, Version: 1}}, Root: rootText(1)}
	freeIs(t, "a Place beyond a slot alone", last, 1)
	freeIs(t, "a Place beyond slots alone", last, 2)
	freeIs(t, "a Place beyond", last, 3, 2)
	freeIs(t, "a Place beyond", last, 5, 2, 3, 4)
	two := impl.Super{Size: 128, Places: []impl.Place{{Block: 6, Version: 9}, {Block: 4, Version: 2}}, Root: rootText(1)}
	freeIs(t, "around two", two, 8, 2, 3, 5, 7)
	freeIs(t, "up to the later one", two, 6, 2, 3, 5)
	freeIs(t, "the later one is the last block", two, 7, 2, 3, 5)
	full := superOf(mostImage, 2, 1)
	freeIs(t, "as many as pieces", full, 18)
	freeIs(t, "one more", full, 19, 18)
	if free, code := impl.FreeBlocks(full, 64); len(free) != 46 || code != impl.OK {
		t.Errorf("FreeBlocks of 16 pieces and 64 blocks is %v, %d", free, code)
	}
	if free, code := impl.FreeBlocks(last, 64); len(free) != 61 || free[60] != 62 || code != impl.OK {
		t.Errorf("FreeBlocks without the last one is %v, %d", free, code)
	}
}

func TestP13BlocksAreFreeOrTaken(t *testing.T) {
	for _, s := range rightSupers() {
		for blocks := 1; blocks <= 64; blocks++ {
			taken := map[int]bool{0: true, 1: true}
			for _, p := range s.Places {
				taken[p.Block] = true
			}
			var want []int
			for at := range blocks {
				if !taken[at] {
					want = append(want, at)
				}
			}
			freeIs(t, "all others", s, blocks, want...)
		}
	}
}
