package tests

import (
	"bytes"
	"fmt"
	"math"
	"slices"
	"strings"
	"testing"

	"loop.example/g00257/impl"
)

var (
	// noImageSizes are numbers of bytes that no image has, the nearest and the farthest ones, and such as would be right if they were cut.
	noImageSizes = []int{-1, 1025, -2, 1026, -63, -64, -65, -1024, 1088, 1 << 16, 1<<16 + 5, 1<<32 + 5, -1<<32 + 5, 1 << 62, math.MinInt, math.MinInt + 1, math.MaxInt - 63, math.MaxInt - 62, math.MaxInt}

	noPiecePlaces = []int{-1, 16, -2, 17, -15, -16, -17, 31, 32, 256 + 3, 1<<32 - 16, 1<<32 + 3, -1<<32 + 3, math.MinInt, math.MinInt + 1, math.MaxInt - 16, math.MaxInt}

	noVersions = append([]int{0}, noShort...)

	// noPlaceBlocks are numbers that no Place's Block has: slots stand in the first two.
	noPlaceBlocks = []int{0, 1, 64, 65, -1, -2, -63, 256 + 2, 1<<32 + 2, -1<<32 + 2, math.MinInt, math.MaxInt}

	fullPiece = numbered(0, pieceBytes)
)

// noPieceLists are within MaxList, and wrong in each of the ways that there are.
func noPieceLists() [][]string {
	out := [][]string{{""}, {"", ""}, {"", "x"}, {"x", ""}, {"x", "x"}, {fullPiece, ""}, {"", fullPiece}, {fullPiece[:63], fullPiece}, {longText[:65]}, {longText[:impl.MaxText]}, {longText}, {longText, longText}}
	for count := 1; count <= mostPieces; count++ {
		for at := range count {
			for _, wrong := range []string{"", longText[:65], longText[:128], longText} {
				list := piecesOf(count, 64)
				list[at] = wrong
				out = append(out, list)
			}
			for _, short := range []int{1, 32, 63} {
				if list := piecesOf(count, 64); at < count-1 {
					list[at] = list[at][:short]
					out = append(out, list)
				}
			}
		}
	}
	for _, count := range []int{17, 18, 32, 100, impl.MaxList - 1, impl.MaxList} {
		out = append(out, piecesOf(count, 64), piecesOf(count, 1), make([]string, count), append(piecesOf(count-1, 64), ""))
	}
	return out
}

func longPieceLists() [][]string {
	var out [][]string
	for _, count := range []int{impl.MaxList + 1, impl.MaxList + 2, 70000} {
		out = append(out, slices.Repeat([]string{fullPiece}, count), make([]string, count), slices.Repeat([]string{longText}, count))
	}
	return out
}

func rightPieceLists() [][]string {
	return [][]string{nil, {}, {"x"}, {fullPiece}, {fullPiece, "x"}, {fullPiece, fullPiece}, piecesOf(16, 1), piecesOf(16, 63), piecesOf(16, 64)}
}

// wrongSupers have one fault each, but for the last ones.
func wrongSupers() []impl.Super {
	var out []impl.Super
	for _, size := range []int{1, 64, 65, 1024} {
		with := func(change func(s *impl.Super)) {
			s := superOf(size, 5, 9)
			change(&s)
			out = append(out, s)
		}
		for _, wrong := range append([]int{0}, noImageSizes...) {
			with(func(s *impl.Super) { s.Size = wrong })
		}
		for _, root := range noRoots {
			with(func(s *impl.Super) { s.Root = root })
		}
		with(func(s *impl.Super) { s.Places = s.Places[1:] })
		with(func(s *impl.Super) { s.Places = nil })
		with(func(s *impl.Super) { s.Places = append(s.Places, impl.Place{Block: 60, Version: 9}) })
		with(func(s *impl.Super) { s.Places = slices.Repeat(s.Places, 70000) })
		for at := range (size + 63) / 64 {
			for _, block := range noPlaceBlocks {
				with(func(s *impl.Super) { s.Places[at].Block = block })
			}
			for _, version := range noVersions {
				with(func(s *impl.Super) { s.Places[at].Version = version })
			}
			with(func(s *impl.Super) { s.Places[at] = impl.Place{} })
			for other := range at {
				with(func(s *impl.Super) { s.Places[at].Block = s.Places[other].Block })
				with(func(s *impl.Super) { s.Places[at] = impl.Place{Block: s.Places[other].Block, Version: 8} })
			}
		}
	}
	out = append(out, impl.Super{Root: rootText(0)}, impl.Super{Size: 1025, Places: superOf(1025, 2, 1).Places, Root: rootText(1)}, impl.Super{Size: 64, Places: superOf(65, 2, 1).Places, Root: rootText(1)}, impl.Super{Size: 65, Places: superOf(64, 2, 1).Places, Root: rootText(1)})
	return append(out, impl.Super{}, impl.Super{Size: -1, Places: []impl.Place{{}}, Root: longText}, impl.Super{Size: math.MaxInt, Places: make([]impl.Place, impl.MaxList+1), Root: longText})
}

func noSealedPiece(t *testing.T, why, key string, place, version int, piece string, want int) {
	t.Helper()
	if x, code := impl.SealPiece(key, place, version, piece); x != "" || code != want {
		t.Errorf("%s: SealPiece by %d bytes, at %d, version %d, of %d bytes is %d bytes, %d, not %d", why, len(key), place, version, len(piece), len(x), code, want)
	}
}

func noOpenPiece(t *testing.T, why, key string, place, version int, x string, want int) {
	t.Helper()
	if piece, code := impl.OpenPiece(key, place, version, x); piece != "" || code != want {
		t.Errorf("%s: OpenPiece by %d bytes, at %d, version %d, of %d bytes is %d bytes, %d, not %d", why, len(key), place, version, len(x), len(piece), code, want)
	}
}

func noPiece(t *testing.T, why, key string, place, version int, text string, want int) {
	t.Helper()
	noSealedPiece(t, why, key, place, version, text, want)
	noOpenPiece(t, why, key, place, version, text, want)
}

func noSuper(t *testing.T, why, b string, want int) {
	t.Helper()
	if s, code := impl.ReadSuper([]byte(b)); !sameSuper(s, impl.Super{}) || code != want {
		t.Errorf("%s: ReadSuper of %d bytes, %.200x, is %s, %d, not %d", why, len(b), b, superText(s), code, want)
	}
}

// superKeepsToRule wants a right super that has just these bytes, or nothing; it tells which.
func superKeepsToRule(t *testing.T, b []byte) int {
	t.Helper()
	s, code := impl.ReadSuper(b)
	if code == impl.OK && (superByRule(s) != string(b) || !superIsRight(s)) || code != impl.OK && (code != impl.ErrForm || !sameSuper(s, impl.Super{})) {
		t.Fatalf("ReadSuper of %x is %s, %d", b, superText(s), code)
	}
	return code
}

func noFree(t *testing.T, why string, s impl.Super, blocks, want int) {
	t.Helper()
	if free, code := impl.FreeBlocks(s, blocks); len(free) != 0 || code != want {
		t.Errorf("%s: FreeBlocks of %s, %d, is %v, %d, not %d", why, superText(s), blocks, free, code, want)
	}
}

func TestP1SizesThatNoImageHas(t *testing.T) {
	for _, size := range noImageSizes {
		if n, code := impl.PieceCount(size); n != 0 || code != impl.ErrRange {
			t.Errorf("PieceCount of %d is %d, %d", size, n, code)
		}
	}
	for size := 1025; size < 3000; size++ {
		if n, code := impl.PieceCount(size); n != 0 || code != impl.ErrRange {
			t.Errorf("PieceCount of %d is %d, %d", size, n, code)
		}
	}
}

func TestP1ImagesThatAreNotCut(t *testing.T) {
	for size, want := range map[int]int{1024: impl.OK, 1025: impl.ErrFull, 1026: impl.ErrFull, 1088: impl.ErrFull, 2048: impl.ErrFull, impl.MaxText - 1: impl.ErrFull, impl.MaxText: impl.ErrFull, impl.MaxText + 1: impl.ErrLong, 2*impl.MaxText + 5: impl.ErrLong} {
		list, code := impl.CutImage(make([]byte, size))
		if code != want || (len(list) != 0) != (want == impl.OK) {
			t.Errorf("CutImage of %d bytes is %s, %d, not %d", size, pieceText(list), code, want)
		}
	}
	for _, none := range [][]byte{nil, {}} {
		if list, code := impl.CutImage(none); len(list) != 0 || code != impl.OK {
			t.Errorf("CutImage of nothing is %s, %d", pieceText(list), code)
		}
	}
}

func TestP1ListsThatAreNoPieces(t *testing.T) {
	for want, lists := range map[int][][]string{impl.ErrBad: noPieceLists(), impl.ErrLong: longPieceLists()} {
		for _, list := range lists {
			if b, code := impl.JoinImage(list); len(b) != 0 || code != want {
				t.Errorf("JoinImage of %s is %d bytes, %d, not %d", pieceText(list), len(b), code, want)
			}
		}
	}
	for _, list := range rightPieceLists() {
		joinsTo(t, list, strings.Join(list, ""))
	}
}

// How long either list is comes ahead of what is wrong with the other one.
func TestP1ListsThatAreNotHeldAgainstEachOther(t *testing.T) {
	no := func(was, now []string, want int) {
		t.Helper()
		if dirty, code := impl.DirtyPieces(was, now); len(dirty) != 0 || code != want {
			t.Fatalf("DirtyPieces of %s and %s is %v, %d, not %d", pieceText(was), pieceText(now), dirty, code, want)
		}
	}
	for _, wrong := range noPieceLists() {
		for _, other := range append(rightPieceLists(), wrong, []string{""}, []string{longText}) {
			no(wrong, other, impl.ErrBad)
			no(other, wrong, impl.ErrBad)
		}
	}
	for _, long := range longPieceLists() {
		for _, other := range slices.Concat(rightPieceLists(), noPieceLists(), longPieceLists()) {
			no(long, other, impl.ErrLong)
			no(other, long, impl.ErrLong)
		}
	}
}

func TestP1NoListAndAnEmptyOneAreOneImage(t *testing.T) {
	for _, was := range [][]string{nil, {}} {
		for _, now := range [][]string{nil, {}} {
			dirtyIs(t, "nothing", was, now)
		}
		joinsTo(t, was, "")
		dirtyIs(t, "all is new", was, []string{fullPiece, "x"}, 0, 1)
		dirtyIs(t, "all went", []string{fullPiece, "x"}, was)
	}
}

// Each pair of faults: a key that is not right is told ahead of places and versions, these ahead of a piece.
func TestP1PiecesThatAreNotSealed(t *testing.T) {
	noPieces := []string{"", longText[:65], longText[:66], longText[:128], longText[:impl.MaxText-16], longText[:impl.MaxText-15], longText[:impl.MaxText]}
	pieces := []string{"x", fullPiece[:63], fullPiece}
	for _, piece := range append(slices.Clone(pieces), noPieces...) {
		for _, key := range noSealKeys() {
			noSealedPiece(t, "no key", key, 2, 3, piece, impl.ErrBad)
			noSealedPiece(t, "no key, no place", key, 16, 3, piece, impl.ErrBad)
			noSealedPiece(t, "no key, no version", key, 2, 0, piece, impl.ErrBad)
			noSealedPiece(t, "no key, neither", key, -1, math.MaxInt, piece, impl.ErrBad)
		}
		for _, place := range noPiecePlaces {
			for _, version := range append(slices.Clone(noVersions), versionEdges...) {
				noSealedPiece(t, "no place", sealKey, place, version, piece, impl.ErrRange)
			}
		}
		for _, version := range noVersions {
			for place := range mostPieces {
				noSealedPiece(t, "no version", sealKey, place, version, piece, impl.ErrRange)
			}
		}
	}
	for _, piece := range noPieces {
		for place := range mostPieces {
			for _, version := range versionEdges {
				noSealedPiece(t, "no piece", sealKey, place, version, piece, impl.ErrBad)
			}
		}
	}
	for _, place := range []int{0, 15} {
		for _, version := range []int{1, 65535} {
			for _, piece := range pieces {
				sealedPiece(t, sealKey, place, version, piece)
			}
		}
	}
}

func TestP1PiecesThatAreNotOpened(t *testing.T) {
	right := sealedPiece(t, sealKey, 2, 3, "piece")
	for _, x := range []string{right, right + "x", right[:len(right)-1], "", "x", longText[:15], longText[:80], longText[:81], longText[:impl.MaxText]} {
		for _, key := range noSealKeys() {
			noOpenPiece(t, "no key", key, 2, 3, x, impl.ErrBad)
			noOpenPiece(t, "no key, no place", key, 16, 3, x, impl.ErrBad)
			noOpenPiece(t, "no key, no version", key, 2, 65536, x, impl.ErrBad)
			noOpenPiece(t, "no key, neither", key, -1, math.MinInt, x, impl.ErrBad)
		}
		for _, place := range noPiecePlaces {
			for _, version := range append(slices.Clone(noVersions), versionEdges...) {
				noOpenPiece(t, "no place", sealKey, place, version, x, impl.ErrRange)
			}
		}
		for _, version := range noVersions {
			for place := range mostPieces {
				noOpenPiece(t, "no version", sealKey, place, version, x, impl.ErrRange)
			}
		}
		if x != right {
			noOpenPiece(t, "not sealed", sealKey, 2, 3, x, impl.ErrSealed)
		}
	}
	opensPiece(t, sealKey, 2, 3, right, "piece")
}

// What is out of its bounds stays closed, also where it was rightly sealed for it.
func TestP1PiecesBeyondTheirBounds(t *testing.T) {
	for _, c := range [][2]int{{-1, 1}, {16, 1}, {-16, 1}, {-15, 1}, {0, 0}, {15, 65536}, {3, 0}, {3, 1 << 20}} {
		x := pieceByRule(t, sealKey, "piece", 16+c[0], c[1], "piece")
		noOpenPiece(t, "beyond", sealKey, c[0], c[1], x, impl.ErrRange)
		noSealedPiece(t, "beyond", sealKey, c[0], c[1], "piece", impl.ErrRange)
	}
	for _, c := range [][2]int{{0, 1}, {15, 1}, {0, 65535}, {15, 65535}} {
		opensPiece(t, sealKey, c[0], c[1], pieceByRule(t, sealKey, "piece", 16+c[0], c[1], "piece"), "piece")
	}
}

func TestP1LongTextsAreNoPieces(t *testing.T) {
	for _, place := range []int{0, 15, -1, 16, math.MinInt} {
		for _, version := range []int{1, 65535, 0, 65536, math.MaxInt} {
			for _, long := range []string{longText, longText + longText} {
				for _, other := range []string{"", "x", sealKey, longText[:33], fullPiece, longText[:65], longText[:impl.MaxText], longText} {
					noPiece(t, "a long key", long, place, version, other, impl.ErrLong)
					noPiece(t, "a long text", other, place, version, long, impl.ErrLong)
				}
			}
		}
	}
}

func TestP1RightSupers(t *testing.T) {
	for _, s := range rightSupers() {
		if !impl.SuperOK(s) || !superIsRight(s) {
			t.Errorf("SuperOK of %s is false", superText(s))
		}
	}
	for _, s := range wrongSupers() {
		if impl.SuperOK(s) || superIsRight(s) {
			t.Errorf("SuperOK of %s is true", superText(s))
		}
		if b, code := impl.SuperBytes(s); len(b) != 0 || code != impl.ErrBad {
			t.Errorf("SuperBytes of %s is %x, %d", superText(s), b, code)
		}
	}
}

// Each Size with each number of places, and each Block with each Version at their edges.
func TestP1SupersAreRightByRule(t *testing.T) {
	for size := -2; size <= 1030; size++ {
		for count := range 19 {
			s := superOf(64*count, 2, 1)
			s.Size = size
			if is := superIsRight(s); impl.SuperOK(s) != is {
				t.Fatalf("SuperOK of %s is %v", superText(s), !is)
			}
		}
	}
	for block := -3; block <= 70; block++ {
		for other := -3; other <= 70; other++ {
			for _, version := range []int{-1, 0, 1, 2, 65534, 65535, 65536} {
				s := impl.Super{Size: 100, Places: []impl.Place{{Block: block, Version: version}, {Block: other, Version: 7}}, Root: rootText(1)}
				if is := superIsRight(s); impl.SuperOK(s) != is {
					t.Fatalf("SuperOK of %s is %v", superText(s), !is)
				}
				slices.Reverse(s.Places)
				if is := superIsRight(s); impl.SuperOK(s) != is {
					t.Fatalf("SuperOK of %s is %v", superText(s), !is)
				}
			}
		}
	}
}

func TestP1BytesThatAreNoSuper(t *testing.T) {
	for _, s := range rightSupers() {
		b := superByRule(s)
		for n := range len(b) {
			noSuper(t, "cut short", b[:n], impl.ErrForm)
			superKeepsToRule(t, []byte(b[n+1:]))
		}
		for _, more := range []string{"\x00", "x", "\x02\x00\x01", b, longText[:impl.MaxText-len(b)]} {
			noSuper(t, "longer", b+more, impl.ErrForm)
		}
		noSuper(t, "long", b+longText, impl.ErrLong)
	}
	for _, long := range []string{longText, longText + longText, strings.Repeat("\x00", impl.MaxText+1)} {
		noSuper(t, "long", long, impl.ErrLong)
	}
	for size := range 120 {
		noSuper(t, "noughts", strings.Repeat("\x00", size), impl.ErrForm)
		noSuper(t, "ones", strings.Repeat("\xff", size), impl.ErrForm)
	}
	noSuper(t, "nothing", "", impl.ErrForm)
	noSuper(t, "the longest", longText[:impl.MaxText], impl.ErrForm)
}

// The bytes of supers that are not right, of those whose numbers fit into them.
func TestP1BytesOfSupersThatAreNotRight(t *testing.T) {
	fits := func(s impl.Super) bool {
		all := s.Size >= 0 && s.Size <= 65535 && len(s.Root) == 32 && len(s.Places) < 100
		for _, p := range s.Places {
			all = all && p.Block >= 0 && p.Block < 256 && p.Version >= 0 && p.Version <= 65535
		}
		return all
	}
	count := 0
	for _, s := range wrongSupers() {
		if fits(s) {
			noSuper(t, superText(s), superByRule(s), impl.ErrForm)
			count++
		}
	}
	if count < 100 {
		t.Errorf("only %d supers that are not right have bytes", count)
	}
	for size := range 65536 {
		if size == 0 || size > 1024 {
			noSuper(t, "a Size that there is not, no places", twoBytes(size)+rootText(1), impl.ErrForm)
		}
	}
	for size := 1025; size < 1200; size++ {
		noSuper(t, "a Size that there is not", superByRule(superOf(size, 2, 1)), impl.ErrForm)
	}
}

// Whatever bytes are a super are just those of the super that they tell.
func TestP1BytesOfSupersWithOneByteChanged(t *testing.T) {
	for _, s := range rightSupers()[:40] {
		whole := []byte(superByRule(s))
		for i := range whole {
			was := whole[i]
			for c := range 256 {
				whole[i] = byte(c)
				if code := superKeepsToRule(t, whole); i >= len(whole)-32 && code != impl.OK {
					t.Fatalf("ReadSuper of %s with another Root is %d", superText(s), code)
				}
			}
			whole[i] = was
		}
	}
}

func TestP1BlocksThatAreNotFree(t *testing.T) {
	for _, s := range wrongSupers() {
		for _, blocks := range append([]int{1, 2, 3, 64}, noBlocks...) {
			noFree(t, "a super that is not right", s, blocks, impl.ErrBad)
		}
	}
	for _, s := range rightSupers() {
		for _, blocks := range noBlocks {
			noFree(t, "no such number of blocks", s, blocks, impl.ErrRange)
		}
		noFree(t, "slots alone", s, 1, impl.OK)
		noFree(t, "slots alone", s, 2, impl.OK)
	}
}

func TestP1PiecesStayAsTheyWere(t *testing.T) {
	for _, size := range append([]int{1025, impl.MaxText + 1}, imageSizes...) {
		whole := append(bytes.Repeat([]byte("image"), size)[:size], "behind"...)
		was := bytes.Clone(whole)
		list, code := impl.CutImage(whole[:size])
		if !bytes.Equal(whole, was) {
			t.Fatalf("CutImage of %d bytes, %d, changes them", size, code)
		}
		clear(whole)
		if code == impl.OK && strings.Join(list, "") != string(was[:size]) {
			t.Fatalf("what CutImage of %d bytes answers is its argument's memory", size)
		}
	}
	starts := slices.Concat(rightPieceLists(), noPieceLists()[:60])
	for _, start := range starts {
		whole := append(slices.Clone(start), "behind", "the end")
		was := slices.Clone(whole)
		list := whole[:len(start)]
		x, _ := impl.JoinImage(list)
		again, code := impl.JoinImage(list)
		clear(x[:cap(x)])
		for _, other := range starts {
			impl.DirtyPieces(list, other)
			impl.DirtyPieces(other, list)
		}
		if !slices.Equal(whole, was) || code == impl.OK && string(again) != strings.Join(start, "") {
			t.Fatalf("JoinImage or DirtyPieces of %s changes it, or two answers are one memory", pieceText(start))
		}
	}
}

func TestP1AnswersOfImagesAreNewMemory(t *testing.T) {
	image := []byte(numbered(0, 1000))
	a, b := cutImage(t, string(image)), cutImage(t, string(image))
	clear(a[:cap(a)])
	joinsTo(t, b, string(image))
	x, y := dirtyPieces(t, nil, b), dirtyPieces(t, nil, b)
	clear(x[:cap(x)])
	if len(y) != 16 || y[15] != 15 {
		t.Error("two answers of DirtyPieces are one memory")
	}
	s := superOf(65, 2, 1)
	free, _ := impl.FreeBlocks(s, 64)
	again, _ := impl.FreeBlocks(s, 64)
	clear(free[:cap(free)])
	if len(again) != 60 || again[0] != 4 || again[59] != 63 {
		t.Error("two answers of FreeBlocks are one memory")
	}
}

func TestP1SupersStayAsTheyWere(t *testing.T) {
	for _, start := range append(rightSupers(), wrongSupers()[:60]...) {
		whole := append(slices.Clone(start.Places), impl.Place{Block: 7, Version: 7}, impl.Place{Block: 8, Version: 8})
		was := slices.Clone(whole)
		s := impl.Super{Size: start.Size, Places: whole[:len(start.Places)], Root: start.Root}
		impl.SuperOK(s)
		impl.FreeBlocks(s, 64)
		x, _ := impl.SuperBytes(s)
		again, code := impl.SuperBytes(s)
		clear(x[:cap(x)])
		if !slices.Equal(whole, was) {
			t.Fatalf("a call, %d, makes %v of %v", code, whole, was)
		}
		if code != impl.OK {
			continue
		}
		if string(again) != superByRule(start) {
			t.Fatal("two answers of SuperBytes are one memory")
		}
		in := append(again, "behind"...)
		y, _ := impl.ReadSuper(in[:len(again)])
		z, _ := impl.ReadSuper(in[:len(again)])
		if string(in) != superByRule(start)+"behind" {
			t.Fatal("ReadSuper changes its bytes")
		}
		clear(in)
		clear(y.Places[:cap(y.Places)])
		if !sameSuper(z, start) {
			t.Fatalf("what ReadSuper answers is another's memory, or its argument's: %s", superText(z))
		}
	}
}

// everyImageCall tells what each function of images answers to inputs drawn from a seed, wrong ones among them.
func everyImageCall(seed stream) string {
	s := seed
	var out []string
	tell := func(x any, code int) { out = append(out, fmt.Sprintf("%x %d", x, code)) }
	image := []byte(s.text(int(s.next()) * 9 / 2))
	tell(impl.PieceCount(len(image) - 20))
	list, code := impl.CutImage(image)
	tell(list, code)
	now := slices.Clone(list)
	if len(now) > 0 {
		now[int(s.next())%len(now)] = s.text([]int{0, 64, 64, 64, 65}[s.next()%5])
	}
	tell(impl.JoinImage(now))
	tell(impl.DirtyPieces(list, now))
	tell(impl.DirtyPieces(now, list))
	key, place, version := s.text([]int{32, 32, 32, 31}[s.next()%4]), int(s.next())%20-2, int(s.next())*300-600
	x, code := impl.SealPiece(key, place, version, s.text(int(s.next())%70))
	tell(x, code)
	tell(impl.OpenPiece(key, place, version, x))
	tell(impl.OpenPiece(key, place, version, s.text(40)))
	super := someSuper(&s)
	if s.next() < 60 {
		wrong := wrongSupers()[:80]
		super = wrong[int(s.next())%len(wrong)]
	}
	b, code := impl.SuperBytes(super)
	tell(b, code)
	if len(b) > 0 && s.next() < 128 {
		b[int(s.next())%len(b)] ^= s.next()
	}
	tell(impl.ReadSuper(b))
	tell(impl.FreeBlocks(super, int(s.next())%70-2))
	return fmt.Sprint(impl.SuperOK(super)) + strings.Join(out, "\n")
}

func TestP1AlikeArgumentsHaveAlikeImages(t *testing.T) {
	alikeAnswers(t, everyImageCall)
}

func TestP1ManyImagesAtOnce(t *testing.T) {
	alikeAtOnce(t, everyImageCall)
}
