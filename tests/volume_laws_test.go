package tests

import (
	"fmt"
	"math"
	"slices"
	"strings"
	"testing"

	"loop.example/g00257/impl"
)

const lastVolumeEpoch = 65535

// imageFiles are right files whose bytes are so many (1, or 6 and more), and hang on salt.
func imageFiles(size, salt int) []impl.File {
	var out []impl.File
	for rest := size - 1; rest > 0; {
		take := min(rest, 205)
		if left := rest - take; left > 0 && left < 5 {
			take -= 5 // a file has five bytes at least
		}
		out = append(out, file(string([]byte{byte('a' + len(out))}), numbered(salt+17*len(out), take-5)))
		rest -= take
	}
	return out
}

func openedText(o impl.Opened) string {
	return fmt.Sprintf("Epoch %d, Root %x, %s", o.Epoch, o.Root, filesText(o.Files))
}

// told is what a slot tells, worked out by the library: its Epoch is 0 where there is no slot.
type told struct {
	impl.Opened
	whole  bool
	super  impl.Super
	pieces []string
}

// unsealedByRule takes the stream off by putting it on once more, and wants that sealing leads back.
func unsealedByRule(t *testing.T, key, extra string, place, version int, x string) (string, bool) {
	t.Helper()
	if len(x) < 16 {
		return "", false
	}
	plain := pieceByRule(t, key, extra, place, version, x[:len(x)-16])[:len(x)-16]
	return plain, pieceByRule(t, key, extra, place, version, plain) == x
}

func leafOfPiece(place, version int, x string) impl.Leaf {
	return impl.Leaf{Version: version, Sum: hashByLibrary("block", fourBytes(place), fourBytes(version), x)}
}

func numberIn(b string) int {
	n := 0
	for i := range len(b) {
		n = 256*n + int(b[i])
	}
	return n
}

// superIn reads a super off its bytes, whatever their number leaves for places.
func superIn(b string) (impl.Super, bool) {
	if len(b) < 34 || (len(b)-34)%3 != 0 {
		return impl.Super{}, false
	}
	s := impl.Super{Size: numberIn(b[:2]), Root: b[len(b)-32:]}
	for at := 2; at < len(b)-32; at += 3 {
		s.Places = append(s.Places, impl.Place{Block: numberIn(b[at : at+1]), Version: numberIn(b[at+1 : at+3])})
	}
	return s, superIsRight(s)
}

// filesIn reads files off their bytes, and wants that these are just theirs.
func filesIn(image string) ([]impl.File, bool) {
	var out []impl.File
	rest := image + strings.Repeat("\x00", 70000)
	take := func(n int) string {
		head := rest[:min(n, len(rest))]
		rest = rest[len(head):]
		return head
	}
	for range numberIn(take(1)) {
		f := impl.File{Path: take(numberIn(take(1)))}
		f.Dir = take(1) == "\x01"
		f.Data = take(numberIn(take(2)))
		out = append(out, f)
	}
	return out, rightByRule(out) && filesByRule(out) == image
}

// readingOf are a disk's blocks as they read.
func readingOf(d impl.Disk) []string {
	out := slices.Clone(d.Blocks)
	for _, w := range d.Cache {
		out[w.At] = w.Data
	}
	return out
}

func tellsByRule(t *testing.T, key string, blocks []string, place int) (x told) {
	t.Helper()
	text := blocks[place]
	if len(text) < 4 {
		return told{}
	}
	epoch := numberIn(text[:4])
	data, is := unsealedByRule(t, key, "slot", place, epoch, text[4:])
	if !is || epoch == 0 || len(data) > 170 {
		return told{}
	}
	x.Epoch = epoch
	s, is := superIn(data)
	if !is {
		return x
	}
	var leaves []impl.Leaf
	for i, p := range s.Places {
		if p.Block >= len(blocks) {
			return x
		}
		piece, is := unsealedByRule(t, key, "piece", 16+i, p.Version, blocks[p.Block])
		if !is || len(piece) == 0 || len(piece) > 64 {
			return x
		}
		x.pieces = append(x.pieces, piece)
		leaves = append(leaves, leafOfPiece(i, p.Version, blocks[p.Block]))
	}
	image := strings.Join(x.pieces, "")
	files, are := filesIn(image)
	if !are || len(image) != s.Size || !slices.Equal(piecesByRule(image), x.pieces) || groveOf(leaves)[""] != s.Root {
		return x
	}
	x.whole, x.super, x.Root, x.Files = true, s, s.Root, files
	return x
}

// newestByRule has Epoch 0 where no slot is whole.
func newestByRule(t *testing.T, key string, blocks []string) told {
	t.Helper()
	first, second := tellsByRule(t, key, blocks, 0), tellsByRule(t, key, blocks, 1)
	switch {
	case !first.whole && !second.whole:
		return told{}
	case !first.whole || second.whole && second.Epoch > first.Epoch:
		return second
	}
	return first
}

// syncByRule does by the document's words what a plan does; the last answer is false where there is no room.
func syncByRule(t *testing.T, key string, d impl.Disk, files []impl.File) ([]impl.DiskAct, string, bool) {
	t.Helper()
	blocks, image := readingOf(d), filesByRule(files)
	was := newestByRule(t, key, blocks)
	if len(image) > mostImage || was.Epoch >= lastVolumeEpoch {
		return nil, "", false
	}
	taken := map[int]bool{0: true, 1: true}
	for _, p := range was.super.Places {
		taken[p.Block] = true
	}
	epoch, next := was.Epoch+1, impl.Super{Size: len(image)}
	var leaves []impl.Leaf
	var acts []impl.DiskAct
	for i, piece := range piecesByRule(image) {
		if i < len(was.pieces) && was.pieces[i] == piece {
			p := was.super.Places[i]
			next.Places = append(next.Places, p)
			leaves = append(leaves, leafOfPiece(i, p.Version, blocks[p.Block]))
			continue
		}
		at := 2
		for taken[at] {
			at++
		}
		if at >= len(blocks) {
			return nil, "", false
		}
		taken[at] = true
		x := pieceByRule(t, key, "piece", 16+i, epoch, piece)
		next.Places = append(next.Places, impl.Place{Block: at, Version: epoch})
		leaves = append(leaves, leafOfPiece(i, epoch, x))
		acts = append(acts, write(at, x))
	}
	next.Root = groveOf(leaves)[""]
	slot := slotByRule(t, key, "slot", epoch%2, epoch, superByRule(next))
	return append(acts, syncAct, write(epoch%2, slot), syncAct), next.Root, true
}

func actsText(acts []impl.DiskAct) string {
	var out []string
	for _, a := range acts {
		out = append(out, actText(a))
	}
	return strings.Join(out, " ")
}

func opensVolume(t *testing.T, why string, d impl.Disk, epoch int, root string, files []impl.File) {
	t.Helper()
	want := openedText(impl.Opened{Epoch: epoch, Root: root, Files: files})
	if o, code := impl.OpenVolume(sealKey, d); openedText(o) != want || code != impl.OK {
		t.Fatalf("%s: OpenVolume is %.400s, %d, not %.400s", why, openedText(o), code, want)
	}
}

// epochIs asks for a code, and for nothing beside it where it is not OK.
func epochIs(t *testing.T, why string, d impl.Disk, epoch, want int) {
	t.Helper()
	o, code := impl.OpenEpoch(sealKey, d, epoch)
	if code != want || (o.Epoch == epoch) != (want == impl.OK) || want != impl.OK && openedText(o) != openedText(impl.Opened{}) {
		t.Fatalf("%s: OpenEpoch of %d is %.400s, %d, not %d", why, epoch, openedText(o), code, want)
	}
}

// volumeKeepsToRule holds all that opens on a disk against what the document says of it.
func volumeKeepsToRule(t *testing.T, why string, d impl.Disk) {
	t.Helper()
	blocks := readingOf(d)
	x, want := newestByRule(t, sealKey, blocks), impl.OK
	if x.Epoch == 0 {
		want = impl.ErrCorrupt
	}
	if o, code := impl.OpenVolume(sealKey, d); code != want || openedText(o) != openedText(x.Opened) {
		t.Fatalf("%s: OpenVolume is %.400s, %d, not %.400s, %d", why, openedText(o), code, openedText(x.Opened), want)
	}
	slots := []told{tellsByRule(t, sealKey, blocks, 0), tellsByRule(t, sealKey, blocks, 1)}
	for _, near := range slots {
		for epoch := max(1, near.Epoch-2); epoch <= min(lastVolumeEpoch, near.Epoch+2); epoch++ {
			is, want := slots[epoch%2], impl.OK
			if is.Epoch != epoch {
				is, want = told{}, impl.ErrNone
			} else if !is.whole {
				is, want = told{}, impl.ErrCorrupt
			}
			if o, code := impl.OpenEpoch(sealKey, d, epoch); code != want || openedText(o) != openedText(is.Opened) {
				t.Fatalf("%s: OpenEpoch of %d is %.400s, %d, not %.400s, %d", why, epoch, openedText(o), code, openedText(is.Opened), want)
			}
		}
	}
}

// syncedByRule holds a plan and a sync against the document's words, and answers the disk behind them, or d itself where there is no room.
func syncedByRule(t *testing.T, why string, d impl.Disk, files []impl.File) (impl.Disk, bool) {
	t.Helper()
	want, root, fits := syncByRule(t, sealKey, d, files)
	acts, r, code := impl.SyncPlan(sealKey, d, files)
	if actsText(acts) != actsText(want) || r != root || (code == impl.OK) != fits || !fits && code != impl.ErrFull {
		t.Fatalf("%s: SyncPlan is %.600s, %x, %d, not %.600s, %x", why, actsText(acts), r, code, actsText(want), root)
	}
	next, code := impl.SyncVolume(sealKey, d, files)
	if !fits {
		if code != impl.ErrFull || diskText(next) != diskText(impl.Disk{}) {
			t.Fatalf("%s: SyncVolume without room is %.300s, %d", why, diskText(next), code)
		}
		return d, false
	}
	if code != impl.OK || diskText(next) != diskText(stepped(t, d, want...)) {
		t.Fatalf("%s: SyncVolume is %.600s, %d", why, diskText(next), code)
	}
	epoch := newestByRule(t, sealKey, readingOf(d)).Epoch + 1
	opensVolume(t, why, next, epoch, root, files)
	epochIs(t, why, next, epoch, impl.OK)
	return next, true
}

// synced are files, one list behind the other, on a disk that has room for them.
func synced(t *testing.T, d impl.Disk, lists ...[]impl.File) impl.Disk {
	t.Helper()
	for _, files := range lists {
		next, fits := syncedByRule(t, "synced", d, files)
		if !fits {
			t.Fatalf("no room for %.200s", filesText(files))
		}
		d = next
	}
	return d
}

func formatted(t *testing.T, blocks int) impl.Disk {
	t.Helper()
	d, code := impl.FormatVolume(sealKey, blocks)
	if code != impl.OK || len(d.Blocks) != blocks || !impl.DiskOK(d) {
		t.Fatalf("FormatVolume of %d blocks is %.300s, %d", blocks, diskText(d), code)
	}
	return d
}

// placesOn are those of the newest whole slot.
func placesOn(t *testing.T, d impl.Disk) []impl.Place {
	t.Helper()
	return newestByRule(t, sealKey, readingOf(d)).super.Places
}

func placesAre(t *testing.T, why string, d impl.Disk, want ...impl.Place) {
	t.Helper()
	if got := placesOn(t, d); !slices.Equal(got, want) {
		t.Fatalf("%s: the places are %v, not %v", why, got, want)
	}
}

// layout is a slot with its pieces as a test lays it onto a disk; what is laid need not be whole.
type layout struct {
	at, epoch int
	pieces    []string
	places    []impl.Place
	size      int
	root      string // the right one where it is empty
}

// laidOut has the pieces of files in blocks from the first one on.
func laidOut(at, epoch, version, first int, files []impl.File) layout {
	image := filesByRule(files)
	return layout{at: at, epoch: epoch, pieces: piecesByRule(image), places: superOf(len(image), first, version).Places, size: len(image)}
}

func (x layout) on(t *testing.T, d impl.Disk) impl.Disk {
	t.Helper()
	d.Blocks = slices.Clone(d.Blocks)
	var leaves []impl.Leaf
	for i, p := range x.places {
		sealed := pieceByRule(t, sealKey, "piece", 16+i, p.Version, x.pieces[i])
		leaves = append(leaves, leafOfPiece(i, p.Version, sealed))
		if p.Block >= 2 && p.Block < len(d.Blocks) {
			d.Blocks[p.Block] = sealed
		}
	}
	s := impl.Super{Size: x.size, Places: x.places, Root: groveOf(leaves)[""]}
	if x.root != "" {
		s.Root = x.root
	}
	d.Blocks[x.at] = slotByRule(t, sealKey, "slot", x.at, x.epoch, superByRule(s))
	return d
}

// wholeAt has one whole slot.
func wholeAt(t *testing.T, blocks, epoch, version int, files []impl.File) impl.Disk {
	t.Helper()
	return laidOut(epoch%2, epoch, version, 2, files).on(t, ran(t, blocks))
}

// Worked out by another program than this one and the library that the other tests ask.
func TestP14AVolumeWorkedOutElsewhere(t *testing.T) {
	key := numbered(0, 32)
	d, code := impl.FormatVolume(key, 6)
	root, rootCode := impl.EmptyRoot(key, 6)
	if code != impl.OK || rootCode != impl.OK || root != unhex(t, "4d7b4cfe2d340b7175f1aba671bf07da34021bf9a2b5470a016088886e0bbdfe") {
		t.Fatalf("FormatVolume is %d, EmptyRoot %x, %d", code, root, rootCode)
	}
	roots := []string{"a918763fe2c1068d9fbf276acd17479c18410033a768701cc0db0e9c5e35b5cd", "c502b4a5a53af28c25f73f57d76bde22442dd870e5af0010e3eb1522237a9059"}
	for i, data := range []string{strings.Repeat("one", 30), strings.Repeat("one", 29) + "two"} {
		files := []impl.File{dir("d"), file("d/f", data)}
		acts, root, code := impl.SyncPlan(key, d, files)
		if root != unhex(t, roots[i]) || code != impl.OK || len(acts) != []int{5, 4}[i] {
			t.Fatalf("SyncPlan is %d acts, %x, %d", len(acts), root, code)
		}
		d, _ = impl.SyncVolume(key, d, files)
	}
	standsAs(t, "worked out", d,
		unhex(t, "00000002c1e624bba715b3bd810225575a9c97f956f67eba15b229c4a4615627ee96b0e1612d5a322ae9f01703c46356a05225e64e5af7405805e420"),
		unhex(t, "00000003e117f6633d6adc21795d5afdfb93b647e34dc478e0c5e12fd4501d00cd5ed393b7778716e5cb2f23814744ac1d11dbe5998803b0d8313544"),
		unhex(t, "20cfdf47b177c9d659bb30469e2ac4755fbdd316471e143c143e3f91c6e209121a3a50e0cc443de1ac4dd08530ca52a54eb5be8e0867ce"),
		unhex(t, "c504c5474f45bdd8535ccf42328f14c3eedde040fe599b5a06a75bd68593619546f3fd7c58d51fd0e5678a019d8ab919e2a4ad1fa0ac292988c9f6d29b5241895e5a02a1568d167d864387126823d3a0"),
		unhex(t, "11ab68a3504c71f34e537d9e898d9e08f2b336bcd72b8255a9cc75f1a86eea7bd50976f0ca557c8029c44a6bed948b92f8810245350b9f"), "")
}

func TestP14FormattedVolumes(t *testing.T) {
	root := ""
	for blocks := 4; blocks <= impl.MaxBlocks; blocks++ {
		d := formatted(t, blocks)
		want, fits := syncedByRule(t, "format", ran(t, blocks), nil)
		if !fits || diskText(d) != diskText(want) || d.Blocks[0] != "" || len(d.Cache)+len(d.Saved) != 0 {
			t.Errorf("FormatVolume of %d blocks is %.400s", blocks, diskText(d))
		}
		r, code := impl.EmptyRoot(sealKey, blocks)
		if root == "" {
			root = r
		}
		if r != root || len(r) != 32 || code != impl.OK {
			t.Errorf("EmptyRoot of %d blocks is %x, %d", blocks, r, code)
		}
		opensVolume(t, "formatted", d, 1, r, nil)
		placesAre(t, "formatted", d, impl.Place{Block: 2, Version: 1})
		volumeKeepsToRule(t, "formatted", d)
	}
}

// Files that stay, change, grow, shrink and go: which blocks their pieces stand in is worked out by hand.
func TestP14PlacesWorkedOutByHand(t *testing.T) {
	at := func(block, version int) impl.Place { return impl.Place{Block: block, Version: version} }
	d := formatted(t, 8)
	long := strings.Repeat("x", 180) // bytes of three pieces, the last one short
	step := func(why string, data string, want ...impl.Place) {
		t.Helper()
		d = synced(t, d, []impl.File{file("a", data)})
		placesAre(t, why, d, want...)
		volumeKeepsToRule(t, why, d)
	}
	step("three", long, at(3, 2), at(4, 2), at(5, 2))
	step("they stay", long, at(3, 2), at(4, 2), at(5, 2))
	step("the second one changes", long[:70]+"y"+long[71:], at(3, 2), at(2, 4), at(5, 2))
	step("it changes back", long, at(3, 2), at(4, 5), at(5, 2))
	step("the last one changes", long[:179]+"y", at(3, 2), at(4, 5), at(2, 6))
	step("one grows", long+"y", at(5, 7), at(4, 5), at(6, 7))
	step("all but one go", "x", at(2, 8))
	step("nothing is left", "", at(3, 9))
	step("all are new", long, at(2, 10), at(4, 10), at(5, 10))
	step("the first and the last one change", "y"+long[1:179]+"z", at(3, 11), at(4, 10), at(6, 11))
	for epoch := range 10 {
		epochIs(t, "long gone", d, epoch+1, map[bool]int{true: impl.OK, false: impl.ErrNone}[epoch+1 == 10])
	}
	d = synced(t, d, nil)
	placesAre(t, "no files", d, at(2, 12))
	opensVolume(t, "no files", d, 12, newestByRule(t, sealKey, d.Blocks).Root, nil)
}

// A piece that is the same keeps its Place, its Version and its bytes, and nothing that the slot before needs is written.
func TestP14NothingThatIsNeededIsWritten(t *testing.T) {
	s := stream(141)
	for seed := range 12 {
		d := formatted(t, 20+seed)
		files := imageFiles(400+30*seed, seed)
		d = synced(t, d, files)
		for range 12 {
			was, before := newestByRule(t, sealKey, d.Blocks), d
			i := int(s.next()) % len(files)
			files = slices.Clone(files)
			data := []byte(files[i].Data)
			if len(data) > 0 {
				data[int(s.next())%len(data)]++
			}
			files[i].Data = string(data)
			acts, _, code := impl.SyncPlan(sealKey, d, files)
			if code != impl.OK || len(acts) > 5 {
				t.Fatalf("a plan of one change has %d acts, %d", len(acts), code)
			}
			for _, a := range acts {
				needed := slices.ContainsFunc(was.super.Places, func(p impl.Place) bool { return p.Block == a.At })
				if a.Kind == impl.DkWrite && (needed || a.At == was.Epoch%2) {
					t.Fatalf("a plan writes to block %d, which Epoch %d needs", a.At, was.Epoch)
				}
			}
			d = synced(t, d, files)
			now := newestByRule(t, sealKey, d.Blocks)
			for i, p := range was.super.Places {
				if was.pieces[i] == now.pieces[i] && (now.super.Places[i] != p || d.Blocks[p.Block] != before.Blocks[p.Block]) {
					t.Fatalf("piece %d, which is the same, goes from %v to %v", i, p, now.super.Places[i])
				}
			}
			epochIs(t, "the one before", d, was.Epoch, impl.OK)
		}
	}
}

func TestP14FilesOfManySizes(t *testing.T) {
	for _, size := range []int{1, 6, 7, 62, 63, 64, 65, 66, 127, 128, 129, 130, 200, 500, 959, 960, 961, 1022, 1023, 1024} {
		files := imageFiles(size, size)
		if got := len(filesByRule(files)); got != size {
			t.Fatalf("files of %d bytes have %d", size, got)
		}
		for _, blocks := range []int{19, 20, 63, 64} {
			d := synced(t, formatted(t, blocks), files)
			dirty := (size + 63) / 64
			if size == 1 {
				dirty = 0
			}
			if acts, _, code := impl.SyncPlan(sealKey, formatted(t, blocks), files); len(acts) != dirty+3 || code != impl.OK {
				t.Errorf("SyncPlan of %d bytes has %d acts, %d", size, len(acts), code)
			}
			volumeKeepsToRule(t, "sized", d)
			for _, other := range []int{1, 64, 65, 1024} {
				if next, fits := syncedByRule(t, "another size", d, imageFiles(other, other)); fits {
					volumeKeepsToRule(t, "another size", next)
				}
			}
		}
	}
	for _, size := range []int{1025, 1026, 1088, 1089, 2048, 2400} {
		d := formatted(t, 64)
		if _, fits := syncedByRule(t, "too many bytes", d, imageFiles(size, 1)); fits {
			t.Errorf("%d bytes are synced", size)
		}
	}
	for _, files := range rightFiles() {
		if d, fits := syncedByRule(t, "right files", formatted(t, 64), files); fits != (len(filesByRule(files)) <= 1024) {
			t.Errorf("%.200s fits: %v, on %d blocks", filesText(files), fits, len(d.Blocks))
		}
	}
}

// On a disk with so many blocks beside the one that the slot before needs: just enough, and one too few.
func TestP14JustEnoughBlocks(t *testing.T) {
	fits := func(why string, d impl.Disk, files []impl.File, want bool) {
		t.Helper()
		if _, got := syncedByRule(t, why, d, files); got != want {
			t.Fatalf("%s: %d bytes on %d blocks fit: %v", why, len(filesByRule(files)), len(d.Blocks), got)
		}
	}
	for pieces := 1; pieces <= mostPieces; pieces++ {
		most, over := imageFiles(64*pieces, 3), imageFiles(64*pieces+6, 3)
		for blocks := max(4, 2+pieces); blocks < min(impl.MaxBlocks, 6+2*pieces); blocks++ {
			d := formatted(t, blocks)
			fits("behind no files", d, most, blocks >= 3+pieces)
			fits("behind no files, one more", d, over, blocks >= 4+pieces && pieces < 16)
			fits("on a new disk", ran(t, blocks), most, true)
			fits("on a new disk, one more", ran(t, blocks), over, blocks >= 3+pieces && pieces < 16)
			full := synced(t, ran(t, blocks), most)
			fits("the same again", full, most, true)
			fits("all are other ones", full, imageFiles(64*pieces, 4), blocks >= 2+2*pieces)
			fits("none", full, nil, blocks >= 3+pieces)
			one := slices.Clone(most)
			one[len(one)-1].Data = one[len(one)-1].Data[:len(one[len(one)-1].Data)-1] + "!"
			fits("the last one changes", full, one, blocks >= 3+pieces)
		}
	}
}

func TestP14TheLastEpochs(t *testing.T) {
	files := imageFiles(130, 1)
	for _, epoch := range []int{1, 2, 3, 255, 256, 257, 32767, 32768, 65533, 65534} {
		d := wholeAt(t, 12, epoch, epoch, files)
		opensVolume(t, "laid", d, epoch, newestByRule(t, sealKey, d.Blocks).Root, files)
		d = synced(t, d, imageFiles(131, 2))
		epochIs(t, "the next one", d, epoch+1, impl.OK)
		epochIs(t, "the one before", d, epoch, impl.OK)
		if epoch < 65533 {
			epochIs(t, "three later", synced(t, d, files, nil), epoch+3, impl.OK)
		}
	}
	d := synced(t, wholeAt(t, 12, 65533, 9, files), imageFiles(131, 2), imageFiles(132, 3))
	epochIs(t, "the last one", d, 65535, impl.OK)
	for _, list := range [][]impl.File{nil, files, imageFiles(132, 3), imageFiles(1025, 1)} {
		if _, fits := syncedByRule(t, "at the end", d, list); fits {
			t.Error("there is an Epoch behind the last one")
		}
	}
	epochIs(t, "still there", d, 65535, impl.OK)
	torn := withBlock(d, 1, "torn")
	epochIs(t, "torn", synced(t, torn, nil), 65535, impl.OK)
}

// A slot may be whole at an Epoch that no sync leads to: it is opened, and nothing is synced behind it.
func TestP14EpochsBeyondTheLastOne(t *testing.T) {
	for _, epoch := range []int{65536, 65537, 1 << 17, 1<<31 - 1, 1 << 31, lastEpoch - 1, lastEpoch} {
		files := imageFiles(100, epoch)
		d := wholeAt(t, 9, epoch, 7, files)
		opensVolume(t, "beyond", d, epoch, newestByRule(t, sealKey, d.Blocks).Root, files)
		epochIs(t, "beyond", d, epoch, impl.ErrRange)
		epochIs(t, "beyond", d, max(1, epoch&0xffff), impl.ErrNone)
		for _, list := range [][]impl.File{nil, files} {
			if _, fits := syncedByRule(t, "beyond", d, list); fits {
				t.Errorf("there is a sync behind Epoch %d", epoch)
			}
		}
	}
}

func TestP14OfTheWholeSlotsTheGreater(t *testing.T) {
	first, second := imageFiles(100, 1), imageFiles(150, 2)
	epochs := []int{0, 1, 2, 3, 4, 255, 256, 65534, 65535, 65536, lastEpoch}
	for _, e := range epochs {
		for _, f := range epochs {
			d := ran(t, 12)
			if e > 0 {
				d = laidOut(0, e, 5, 2, first).on(t, d)
			}
			if f > 0 {
				d = laidOut(1, f, 6, 6, second).on(t, d)
			}
			want, root := first, tellsByRule(t, sealKey, d.Blocks, 0).Root
			if f > e {
				want, root = second, tellsByRule(t, sealKey, d.Blocks, 1).Root
			}
			if max(e, f) > 0 {
				opensVolume(t, fmt.Sprint("Epochs ", e, f), d, max(e, f), root, want)
			}
			volumeKeepsToRule(t, fmt.Sprint("Epochs ", e, f), d)
			syncedByRule(t, fmt.Sprint("Epochs ", e, f), d, imageFiles(101, 3))
		}
	}
}

// A slot at the other place than its Epoch's own is whole, too, but it is not there for OpenEpoch.
func TestP14ASlotAtTheWrongPlace(t *testing.T) {
	files := imageFiles(100, 1)
	for _, epoch := range []int{1, 2, 3, 255, 256, 65534, 65535} {
		d := laidOut(1-epoch%2, epoch, 4, 2, files).on(t, ran(t, 12))
		opensVolume(t, "at the wrong place", d, epoch, newestByRule(t, sealKey, d.Blocks).Root, files)
		epochIs(t, "at the wrong place", d, epoch, impl.ErrNone)
		both := laidOut(epoch%2, epoch, 4, 6, imageFiles(101, 2)).on(t, d)
		epochIs(t, "at both places", both, epoch, impl.OK)
		volumeKeepsToRule(t, "at both places", both)
		syncedByRule(t, "at the wrong place", d, imageFiles(101, 2))
		other := slotBytes(t, epoch%2, epoch, "data")
		epochIs(t, "another's bytes", withBlock(ran(t, 12), 1-epoch%2, other), epoch, impl.ErrNone)
		epochIs(t, "no super", withBlock(ran(t, 12), epoch%2, other), epoch, impl.ErrCorrupt)
	}
}

// notWhole lays a slot of Epoch 5 beside whole ones of Epochs 4 and 2, and alone: it is there, not whole, and the elder one is open.
func notWhole(t *testing.T, why string, x layout) {
	t.Helper()
	for _, elder := range []int{0, 2, 4} {
		d := ran(t, 30)
		if elder > 0 {
			d = laidOut(0, elder, elder, 20, imageFiles(90, elder)).on(t, d)
		}
		corruptAt5(t, why, x.on(t, d), elder)
	}
}

func corruptAt5(t *testing.T, why string, d impl.Disk, elder int) {
	t.Helper()
	epochIs(t, why, d, 5, impl.ErrCorrupt)
	want := impl.ErrCorrupt
	if elder > 0 {
		want = impl.OK
	}
	if o, code := impl.OpenVolume(sealKey, d); o.Epoch != elder || code != want || want != impl.OK && openedText(o) != openedText(impl.Opened{}) {
		t.Fatalf("%s: OpenVolume beside Epoch %d is %.300s, %d", why, elder, openedText(o), code)
	}
	volumeKeepsToRule(t, why, d)
	syncedByRule(t, why, d, imageFiles(91, 3))
}

// fiveWith changes a whole slot of Epoch 5 and 200 bytes in four pieces.
func fiveWith(change func(x *layout)) layout {
	x := laidOut(1, 5, 3, 2, imageFiles(200, 7))
	change(&x)
	return x
}

func TestP14SlotsThatAreNotWhole(t *testing.T) {
	whole := fiveWith(func(*layout) {})
	d := whole.on(t, ran(t, 30))
	opensVolume(t, "whole", d, 5, newestByRule(t, sealKey, d.Blocks).Root, imageFiles(200, 7))
	root := newestByRule(t, sealKey, d.Blocks).Root
	for bit := range 256 {
		if bit%13 == 0 || bit == 255 {
			notWhole(t, "another Root", fiveWith(func(x *layout) { x.root = withBit(root, bit) }))
		}
	}
	notWhole(t, "the Root of nothing", fiveWith(func(x *layout) { x.root = hashByLibrary("\x02") }))
	for _, size := range []int{193, 194, 199, 201, 255, 256} {
		notWhole(t, "another Size", fiveWith(func(x *layout) { x.size = size }))
	}
	for _, size := range []int{0, 1, 64, 192, 257, 1024, 1025, 65535} {
		notWhole(t, "a Size of other pieces", fiveWith(func(x *layout) { x.size = size }))
	}
	for i := range 4 {
		for _, piece := range []string{"", longText[:65], longText[:150]} {
			notWhole(t, "no piece", fiveWith(func(x *layout) { x.pieces[i] = piece }))
		}
		notWhole(t, "one byte of another", fiveWith(func(x *layout) { x.pieces[0] = withBit(x.pieces[0], 8*i) }))
		notWhole(t, "a block that the disk lacks", fiveWith(func(x *layout) { x.places[i].Block = 30 + i }))
		notWhole(t, "the last block that there is", fiveWith(func(x *layout) { x.places[i].Block = 63 }))
		for j := range i {
			notWhole(t, "two have one block", fiveWith(func(x *layout) { x.places[i].Block = x.places[j].Block }))
		}
		for _, block := range []int{0, 1, 64, 255} {
			notWhole(t, "no Place", fiveWith(func(x *layout) { x.places[i].Block = block }))
		}
		notWhole(t, "no Version", fiveWith(func(x *layout) { x.places[i].Version = 0 }))
	}
	notWhole(t, "a piece ahead of the last one is short", fiveWith(func(x *layout) {
		x.pieces = []string{x.pieces[0][:63], x.pieces[0][63:] + x.pieces[1][:63], x.pieces[1][63:] + x.pieces[2][:63], x.pieces[2][63:] + x.pieces[3]}
	}))
	edge := fiveWith(func(x *layout) { x.places[3].Block, x.places[0].Version = 29, 65535 }).on(t, ran(t, 30))
	volumeKeepsToRule(t, "the last block and Version", edge)
	epochIs(t, "the last block and Version", edge, 5, impl.OK)
}

func TestP14PiecesThatAreNoFiles(t *testing.T) {
	images := []string{"\x01", "\x00\x00", "\x00x", "\xff", "\x0d", "x", longText[:64], longText[:65], longText[:1024], strings.Repeat("\x00", 1024)}
	for _, list := range wrongFileLists() {
		if b := filesByRule(list); len(b) <= mostImage && len(list) < 256 {
			images = append(images, b)
		}
	}
	right := filesByRule(imageFiles(200, 7))
	for _, n := range []int{1, 63, 64, 65, 199} {
		images = append(images, right[:n], right[n:])
	}
	images = append(images, right+"\x00", right+right)
	for _, image := range images {
		if _, are := filesIn(image); are {
			t.Fatalf("%.100q are files' bytes", image)
		}
		x := layout{at: 1, epoch: 5, pieces: piecesByRule(image), places: superOf(len(image), 2, 3).Places, size: len(image)}
		corruptAt5(t, "no files", x.on(t, ran(t, 30)), 0)
		corruptAt5(t, "no files", x.on(t, laidOut(0, 4, 4, 20, nil).on(t, ran(t, 30))), 4)
	}
}

// Whoever has the key can seal other Data than a super's into a slot.
func TestP14DataThatAreNoSuper(t *testing.T) {
	d := laidOut(0, 4, 4, 20, imageFiles(90, 4)).on(t, fiveWith(func(*layout) {}).on(t, ran(t, 30)))
	data, _ := unsealedByRule(t, sealKey, "slot", 1, 5, d.Blocks[1][4:])
	for n := range len(data) {
		corruptAt5(t, "cut", withBlock(d, 1, slotByRule(t, sealKey, "slot", 1, 5, data[:n])), 4)
	}
	for _, other := range []string{data + "\x00", data + data, "\x00" + data, data[1:], longText[:170], strings.Repeat("\x00", 170)} {
		corruptAt5(t, "other bytes", withBlock(d, 1, slotByRule(t, sealKey, "slot", 1, 5, other)), 4)
	}
	for i := range len(data) {
		corruptAt5(t, "one byte", withBlock(d, 1, slotByRule(t, sealKey, "slot", 1, 5, withBit(data, 8*i+i%8))), 4)
	}
	for _, wrong := range []string{slotByRule(t, sealKey, "piece", 1, 5, data), slotByRule(t, sealKey, "slot", 0, 5, data), slotByRule(t, withBit(sealKey, 1), "slot", 1, 5, data), slotByRule(t, sealKey, "slot", 1, 0, data), slotByRule(t, sealKey, "slot", 1, 5, longText[:171]), "", "\x00\x00\x00\x05"} {
		x := withBlock(d, 1, wrong)
		epochIs(t, "no slot", x, 5, impl.ErrNone)
		volumeKeepsToRule(t, "no slot", x)
		syncedByRule(t, "no slot", x, nil)
	}
}

// What is sealed for another place, Version, use or key, or changed in any bit, does not open.
func TestP14BlocksThatWereTamperedWith(t *testing.T) {
	d := laidOut(0, 4, 4, 20, imageFiles(90, 4)).on(t, fiveWith(func(*layout) {}).on(t, ran(t, 30)))
	pieces := piecesByRule(filesByRule(imageFiles(200, 7)))
	for i, piece := range pieces {
		at := 2 + i
		for bit := range 8 * len(d.Blocks[at]) {
			if bit%7 == 0 {
				epochIs(t, "a bit", withBlock(d, at, withBit(d.Blocks[at], bit)), 5, impl.ErrCorrupt)
			}
		}
		others := []string{"", "x", d.Blocks[at][1:], d.Blocks[at] + "x", d.Blocks[at][:16], d.Blocks[20], d.Blocks[0], d.Blocks[2+(i+1)%4], longestBlock}
		for _, place := range []int{0, i, 16 + (i+1)%4, 32 + i} {
			others = append(others, pieceByRule(t, sealKey, "piece", place, 3, piece))
		}
		for _, version := range []int{1, 2, 4, 5, 65535} {
			others = append(others, pieceByRule(t, sealKey, "piece", 16+i, version, piece))
		}
		others = append(others, pieceByRule(t, sealKey, "slot", 16+i, 3, piece), pieceByRule(t, sealKey, "", 16+i, 3, piece), pieceByRule(t, withBit(sealKey, 9), "piece", 16+i, 3, piece),
			pieceByRule(t, sealKey, "piece", 16+i, 3, withBit(piece, 5)), pieceByRule(t, sealKey, "piece", 16+i, 3, piece+"x"), pieceByRule(t, sealKey, "piece", 16+i, 3, piece[:len(piece)-1]))
		for _, other := range others {
			corruptAt5(t, "another block", withBlock(d, at, other), 4)
			epochIs(t, "written over", stepped(t, d, write(at, other)), 5, impl.ErrCorrupt)
		}
		epochIs(t, "behind what waits", stepped(t, d, write(at, d.Blocks[at]), tamper(at, "x")), 5, impl.OK)
		if other, code := impl.OpenVolume(sealKey, stepped(t, d, tamper(at, "x"), tamper(20, "x"))); code != impl.ErrCorrupt || openedText(other) != openedText(impl.Opened{}) {
			t.Errorf("OpenVolume without a whole slot is %s, %d", openedText(other), code)
		}
	}
	for _, at := range []int{6, 7, 19, 22, 29} {
		x := withBlock(d, at, longestBlock)
		epochIs(t, "a block that nothing needs", x, 5, impl.OK)
		epochIs(t, "a block that nothing needs", x, 4, impl.OK)
	}
}

// The Root holds the place, the Version and the sealed bytes of each piece, in their order.
func TestP14RootsOfOtherLeaves(t *testing.T) {
	whole := fiveWith(func(x *layout) { x.places[1].Version, x.places[2].Version = 2, 9 })
	d := whole.on(t, ran(t, 30))
	epochIs(t, "whole", d, 5, impl.OK)
	var right []impl.Leaf
	for i, p := range whole.places {
		right = append(right, leafOfPiece(i, p.Version, d.Blocks[p.Block]))
	}
	with := func(why string, change func(list []impl.Leaf) []impl.Leaf) {
		t.Helper()
		x := whole
		x.root = groveOf(change(slices.Clone(right)))[""]
		notWhole(t, why, x)
	}
	for i, p := range whole.places {
		x := d.Blocks[p.Block]
		with("another place", func(list []impl.Leaf) []impl.Leaf { list[i] = leafOfPiece(i+1, p.Version, x); return list })
		with("a nonce's place", func(list []impl.Leaf) []impl.Leaf { list[i] = leafOfPiece(16+i, p.Version, x); return list })
		with("a block's place", func(list []impl.Leaf) []impl.Leaf { list[i] = leafOfPiece(p.Block, p.Version, x); return list })
		with("another Version", func(list []impl.Leaf) []impl.Leaf { list[i].Version++; return list })
		with("the slot's Epoch", func(list []impl.Leaf) []impl.Leaf { list[i] = leafOfPiece(i, 5, x); return list })
		with("not what is sealed", func(list []impl.Leaf) []impl.Leaf {
			list[i] = leafOfPiece(i, p.Version, whole.pieces[i])
			return list
		})
		with("one lacks", func(list []impl.Leaf) []impl.Leaf { return slices.Delete(list, i, i+1) })
	}
	with("one more", func(list []impl.Leaf) []impl.Leaf { return append(list, list[3]) })
	with("another order", func(list []impl.Leaf) []impl.Leaf { slices.Reverse(list); return list })
}

func TestP14WhatWaitsInTheCacheOfAVolume(t *testing.T) {
	files := imageFiles(100, 1)
	d := formatted(t, 10)
	acts, _, _ := impl.SyncPlan(sealKey, d, files)
	for n := range len(acts) + 1 {
		x := stepped(t, d, acts[:n]...)
		volumeKeepsToRule(t, "half a plan", x)
		syncedByRule(t, "half a plan", x, files)
		syncedByRule(t, "half a plan", x, imageFiles(101, 2))
		epochIs(t, "half a plan", x, 2, map[bool]int{true: impl.OK, false: impl.ErrNone}[n > 3])
	}
	gone := stepped(t, synced(t, d, files), write(0, "x"))
	opensVolume(t, "written over", gone, 1, newestByRule(t, sealKey, readingOf(gone)).Root, nil)
	syncedByRule(t, "written over", gone, files)
	saved := synced(t, stepped(t, d, saveAct), files)
	if !slices.Equal(saved.Saved, d.Blocks) {
		t.Error("a sync changes what is saved")
	}
	opensVolume(t, "rolled back", stepped(t, saved, rollbackAct), 1, newestByRule(t, sealKey, d.Blocks).Root, nil)
}

// A Cache with room for a plan's first writes, or without: behind the first sync there is room again.
func TestP14ACacheWithoutRoom(t *testing.T) {
	waiting := func(d impl.Disk, n int) impl.Disk {
		d.Cache = slices.Repeat([]impl.Pending{{At: 60, Data: "waits"}}, n)
		return d
	}
	for _, size := range []int{1, 64, 65, 1024} {
		files, d := imageFiles(size, 1), ran(t, 64)
		writes := (size + 63) / 64
		for room := range writes + 2 {
			x := waiting(d, impl.MaxList-room)
			want, root, _ := syncByRule(t, sealKey, x, files)
			if acts, r, code := impl.SyncPlan(sealKey, x, files); actsText(acts) != actsText(want) || r != root || code != impl.OK {
				t.Errorf("SyncPlan with room for %d writes is %d acts, %d", room, len(acts), code)
			}
			y, code := impl.SyncVolume(sealKey, x, files)
			if room < writes {
				if code != impl.ErrFull || diskText(y) != diskText(impl.Disk{}) {
					t.Errorf("SyncVolume of %d writes with room for %d is %.200s, %d", writes, room, diskText(y), code)
				}
				continue
			}
			if code != impl.OK || len(y.Cache) != 0 || y.Blocks[60] != "waits" {
				t.Errorf("SyncVolume of %d writes with room for %d is %.200s, %d", writes, room, diskText(y), code)
			}
			opensVolume(t, "just room", y, 1, root, files)
		}
		full := waiting(synced(t, d, files), impl.MaxList)
		opensVolume(t, "nothing is written ahead of the sync", synced(t, full, files), 2, newestByRule(t, sealKey, full.Blocks).Root, files)
	}
}

func TestP14AnotherKeyMakesAnotherVolume(t *testing.T) {
	d := synced(t, formatted(t, 12), imageFiles(100, 1))
	for _, bit := range []int{0, 100, 255} {
		other := withBit(sealKey, bit)
		if o, code := impl.OpenVolume(other, d); code != impl.ErrCorrupt || openedText(o) != openedText(impl.Opened{}) {
			t.Errorf("OpenVolume by another key is %s, %d", openedText(o), code)
		}
		if o, code := impl.OpenEpoch(other, d, 2); code != impl.ErrNone || openedText(o) != openedText(impl.Opened{}) {
			t.Errorf("OpenEpoch by another key is %s, %d", openedText(o), code)
		}
		want, root, _ := syncByRule(t, other, d, nil)
		acts, r, code := impl.SyncPlan(other, d, nil)
		empty, _ := impl.EmptyRoot(other, 12)
		mine, _ := impl.EmptyRoot(sealKey, 12)
		if actsText(acts) != actsText(want) || r != root || r != empty || r == mine || code != impl.OK {
			t.Errorf("SyncPlan by another key is %s, %x, %d", actsText(acts), r, code)
		}
	}
}

// someFiles draws from few texts, so that pieces stay, come back, grow and go.
func someFiles(s *stream, most int) []impl.File {
	var out []impl.File
	for i := range int(s.next()) % 5 {
		f := file(string([]byte{byte('a' + i)}), strings.Repeat(string([]byte{'p' + s.next()%2}), int(s.next())%most))
		if s.next() < 60 {
			f = dir(f.Path)
		}
		out = append(out, f)
	}
	return out
}

func TestP14VolumesSyncedOverAndOver(t *testing.T) {
	for seed := range 40 {
		s := stream(seed)
		d := formatted(t, []int{4, 5, 6, 8, 12, 30, 64}[seed%7])
		epoch, files, full := 1, []impl.File(nil), 0
		for range 30 {
			list := someFiles(&s, 20+5*seed%160)
			next, fits := syncedByRule(t, fmt.Sprint("seed ", seed), d, list)
			if fits {
				epoch, files = epoch+1, list
			} else {
				full++
			}
			d = next
			opensVolume(t, fmt.Sprint("seed ", seed), d, epoch, newestByRule(t, sealKey, d.Blocks).Root, files)
			volumeKeepsToRule(t, fmt.Sprint("seed ", seed), d)
		}
		if full == 30 {
			t.Errorf("seed %d: nothing was synced", seed)
		}
	}
}

// Whatever is done to a disk between syncs, all that opens and is planned on it keeps to the document's words.
func TestP14WhateverIsDoneToTheDisk(t *testing.T) {
	for seed := range 60 {
		s := stream(1000 + seed)
		d := formatted(t, 4+seed%9)
		for range 40 {
			acts, _, code := impl.SyncPlan(sealKey, d, someFiles(&s, 100))
			switch n := s.next() % 8; {
			case n < 3 && code == impl.OK:
				d = stepped(t, d, acts...)
			case n < 4 && code == impl.OK:
				d = stepped(t, d, acts[:int(s.next())%len(acts)]...)
			case n < 5:
				from, to := int(s.next())%len(d.Blocks), int(s.next())%len(d.Blocks)
				d = stepped(t, d, write(to, d.Blocks[from]))
			default:
				if x, code := impl.DiskStep(d, someAct(&s, len(d.Blocks))); code == impl.OK {
					d = x
				}
			}
			volumeKeepsToRule(t, fmt.Sprint("seed ", seed), d)
			syncedByRule(t, fmt.Sprint("seed ", seed), d, someFiles(&s, 100))
		}
	}
}

// isOpen tells what is open as one text: nothing, where no slot is whole.
func isOpen(t *testing.T, d impl.Disk) string {
	t.Helper()
	o, code := impl.OpenVolume(sealKey, d)
	if code != impl.OK && code != impl.ErrCorrupt {
		t.Fatalf("OpenVolume is %d", code)
	}
	return openedText(o)
}

// crashes are all that a power cut may do to so many writes: each choice of those that are kept, and one torn at each of these.
func crashes(writes int, torn []int) []impl.DiskAct {
	var out []impl.DiskAct
	for n := range writes + 2 {
		for _, keep := range flags(n) {
			for _, at := range torn {
				out = append(out, crash(at, keep...))
			}
		}
	}
	return out
}

func allCuts(most int) []int {
	out := []int{math.MinInt, -1, impl.MaxBlock, math.MaxInt}
	for n := range most + 1 {
		out = append(out, n)
	}
	return out
}

// wherever cuts the power behind each act of a sync, in each way: what was open is open, or what was synced.
func wherever(t *testing.T, why string, d impl.Disk, files []impl.File) impl.Disk {
	t.Helper()
	before := isOpen(t, d)
	acts, root, code := impl.SyncPlan(sealKey, d, files)
	if code != impl.OK {
		t.Fatalf("%s: SyncPlan is %d", why, code)
	}
	behind := stepped(t, d, acts...)
	after := openedText(impl.Opened{Epoch: newestByRule(t, sealKey, readingOf(d)).Epoch + 1, Root: root, Files: files})
	for done := range len(acts) + 1 {
		x := stepped(t, d, acts[:done]...)
		torn := []int{0, 1, 15, 16, 17, 40, 79, 80, 81, -1, math.MaxInt}
		if len(x.Cache) == 1 {
			torn = allCuts(len(x.Cache[0].Data) + 1)
		}
		for _, c := range crashes(min(len(x.Cache), 3), torn) {
			is := isOpen(t, stepped(t, x, c))
			if is != before && is != after || done < len(acts)-1 && is != before || done == len(acts) && is != after {
				t.Fatalf("%s: a power cut behind %d of %d acts, %s, opens as %.300s, neither %.300s nor %.300s", why, done, len(acts), actText(c), is, before, after)
			}
		}
	}
	if is := isOpen(t, behind); is != after {
		t.Fatalf("%s: what was synced opens as %.300s", why, is)
	}
	return behind
}

func TestP14WhereverThePowerGoes(t *testing.T) {
	wherever(t, "the first sync", ran(t, 4), nil)
	wherever(t, "the first sync", ran(t, 6), imageFiles(150, 1))
	d := formatted(t, 4)
	for i, size := range []int{10, 64, 1, 40, 40, 64} {
		d = wherever(t, fmt.Sprint("one piece, ", size), d, imageFiles(size, i))
	}
	d = formatted(t, 7)
	for i, size := range []int{128, 100, 129, 1, 192, 64} {
		if _, fits := syncedByRule(t, "sized", d, imageFiles(size, i)); fits {
			d = wherever(t, fmt.Sprint("pieces, ", size), d, imageFiles(size, i))
		}
	}
	long := strings.Repeat("x", 180)
	d = synced(t, formatted(t, 7), nil, []impl.File{file("a", long)})
	for _, data := range []string{long, long[:70] + "y" + long[71:], long, long[:179] + "z", "y" + long[1:], long[:100]} {
		d = wherever(t, "some stay", d, []impl.File{file("a", data)})
	}
}

// Power cuts again and again on disks where blocks are scarce: each leaves what was open, or what was to be synced, and the next sync goes on from there.
func TestP14PowerCutsOverAndOver(t *testing.T) {
	for seed := range 120 {
		s := stream(5000 + seed)
		d := ran(t, []int{4, 5, 6, 7, 9, 14}[seed%6])
		if seed%4 > 0 {
			d = formatted(t, len(d.Blocks))
		}
		for range 25 {
			files, before := someFiles(&s, 10+seed), isOpen(t, d)
			acts, root, code := impl.SyncPlan(sealKey, d, files)
			if code == impl.ErrFull {
				continue
			}
			after := openedText(impl.Opened{Epoch: newestByRule(t, sealKey, d.Blocks).Epoch + 1, Root: root, Files: files})
			done := int(s.next()) % (len(acts) + 1)
			d = stepped(t, d, acts[:done]...)
			var keep []bool
			for range int(s.next()) % (len(acts) + 1) {
				keep = append(keep, s.next() < 128)
			}
			d = stepped(t, d, crash(int(s.next())%90-2, keep...))
			is := isOpen(t, d)
			if is != before && is != after || done < len(acts)-1 && is != before || done == len(acts) && is != after {
				t.Fatalf("seed %d: a power cut behind %d of %d acts opens as %.300s, neither %.300s nor %.300s", seed, done, len(acts), is, before, after)
			}
		}
	}
}
