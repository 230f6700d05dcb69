package tests

import (
	"fmt"
	"math"
	"slices"
	"strings"
	"testing"

	"loop.example/g00257/impl"
)

var (
	// noVolumeBlocks are numbers of blocks that no volume has, the nearest and the farthest ones, and such as would be right if they were cut.
	noVolumeBlocks = append([]int{3, 2, 1, -3, -4, 1<<8 + 8, 1<<32 + 8, -1<<32 + 8}, noBlocks...)

	noVolumeEpochs = []int{0, -1, 65536, 65537, -2, -65535, -65536, 1 << 17, 1<<16 + 2, 1<<32 + 1, 1<<32 + 2, -1<<32 + 2, lastEpoch, math.MinInt, math.MinInt + 1, math.MinInt + 2, math.MaxInt - 1, math.MaxInt}

	someNoKeys = []string{"", longText[:16], longText[:31], longText[:33], longText[:64], longText[:impl.MaxText]}

	longKeys = []string{longText, longText + longText}
)

// formatsNothing asks for one code of both calls on a new disk, and nothing beside it.
func formatsNothing(t *testing.T, why, key string, blocks, want int) {
	t.Helper()
	if d, code := impl.FormatVolume(key, blocks); code != want || diskText(d) != diskText(impl.Disk{}) {
		t.Errorf("%s: FormatVolume by %d bytes of %d blocks is %.200s, %d, not %d", why, len(key), blocks, diskText(d), code, want)
	}
	if root, code := impl.EmptyRoot(key, blocks); code != want || root != "" {
		t.Errorf("%s: EmptyRoot by %d bytes of %d blocks is %x, %d, not %d", why, len(key), blocks, root, code, want)
	}
}

func noVolume(t *testing.T, why, key string, d impl.Disk, want int) {
	t.Helper()
	if o, code := impl.OpenVolume(key, d); code != want || openedText(o) != openedText(impl.Opened{}) {
		t.Errorf("%s: OpenVolume by %d bytes of %.200s is %.200s, %d, not %d", why, len(key), diskText(d), openedText(o), code, want)
	}
}

func noEpoch(t *testing.T, why, key string, d impl.Disk, epoch, want int) {
	t.Helper()
	if o, code := impl.OpenEpoch(key, d, epoch); code != want || openedText(o) != openedText(impl.Opened{}) {
		t.Errorf("%s: OpenEpoch by %d bytes of %.200s and %d is %.200s, %d, not %d", why, len(key), diskText(d), epoch, openedText(o), code, want)
	}
}

// syncsNothing asks for one code of a plan and of a sync, and nothing beside it.
func syncsNothing(t *testing.T, why, key string, d impl.Disk, files []impl.File, want int) {
	t.Helper()
	if acts, root, code := impl.SyncPlan(key, d, files); code != want || len(acts) != 0 || root != "" {
		t.Errorf("%s: SyncPlan by %d bytes of %.200s and %d files is %d acts, %x, %d, not %d", why, len(key), diskText(d), len(files), len(acts), root, code, want)
	}
	if x, code := impl.SyncVolume(key, d, files); code != want || diskText(x) != diskText(impl.Disk{}) {
		t.Errorf("%s: SyncVolume by %d bytes of %.200s and %d files is %.200s, %d, not %d", why, len(key), diskText(d), len(files), diskText(x), code, want)
	}
}

// volumeDisks are right ones of four blocks at least: without a slot, with one, with two, not whole, at the last Epoch and beyond, with a full Cache.
func volumeDisks(t *testing.T) []impl.Disk {
	t.Helper()
	two := synced(t, formatted(t, 9), imageFiles(150, 1))
	half, _, _ := impl.SyncPlan(sealKey, two, nil)
	return []impl.Disk{
		ran(t, 4), ran(t, 64), fullDisk(t), formatted(t, 4), formatted(t, 64), two, stepped(t, two, saveAct, tamper(3, "x")), stepped(t, two, half[:1]...), stepped(t, two, half[:3]...),
		wholeAt(t, 5, 65534, 1, nil), wholeAt(t, 5, 65535, 1, nil), wholeAt(t, 5, 65536, 1, nil), withBlock(ran(t, 4), 1, slotBytes(t, 1, 65535, "no super")),
	}
}

// smallVolumes are right, and have too few blocks.
func smallVolumes(t *testing.T) []impl.Disk {
	t.Helper()
	out := []impl.Disk{smallDisk(t)}
	for n := 1; n <= 3; n++ {
		out = append(out, ran(t, n), ran(t, n, saveAct), ran(t, n, write(n-1, "x")))
	}
	three := ran(t, 3)
	copy(three.Blocks, formatted(t, 4).Blocks)
	if newestByRule(t, sealKey, three.Blocks).Epoch != 1 {
		t.Fatal("three blocks are no whole volume")
	}
	return append(out, three)
}

// wrongVolumes are disks with a volume, and a fault beside it.
func wrongVolumes(t *testing.T) []impl.Disk {
	t.Helper()
	d := synced(t, formatted(t, 9), imageFiles(150, 1))
	out := []impl.Disk{withBlock(d, 0, longBlock), withBlock(d, 8, longBlock), withBlock(d, 8, longText), withSaved(d, ""), withSaved(d, make([]string, 8)...), withSaved(d, make([]string, 10)...), withSaved(d, append(make([]string, 8), longBlock)...), withWrite(d, 0, 8, longBlock)}
	for _, at := range noPlaces(9) {
		out = append(out, withWrite(d, 0, at, "x"))
	}
	many := d
	many.Blocks = slices.Concat(d.Blocks, make([]string, 56))
	full := d
	full.Cache = slices.Repeat([]impl.Pending{{At: 8, Data: "x"}}, impl.MaxList+1)
	return append(out, many, full)
}

// someWrongFiles are a few of each kind: not right, too many, both not right and of too many bytes.
func someWrongFiles() [][]impl.File {
	big := imageFiles(1200, 1)
	big[0].Path = "0"
	return [][]impl.File{{file("b", ""), file("a", "")}, {file("a/b", "")}, {{}}, {{Path: "a", Dir: true, Data: "x"}}, {file("a", longText[:201])}, {file(longText, longText)}, manyFiles(13), manyFiles(impl.MaxList), make([]impl.File, impl.MaxList), big}
}

func TestP1BlocksThatNoVolumeHas(t *testing.T) {
	for _, blocks := range noVolumeBlocks {
		formatsNothing(t, "no such number of blocks", sealKey, blocks, impl.ErrRange)
		for _, key := range someNoKeys {
			formatsNothing(t, "nor a key", key, blocks, impl.ErrBad)
		}
		for _, key := range longKeys {
			formatsNothing(t, "and a long key", key, blocks, impl.ErrLong)
		}
	}
	for _, blocks := range []int{4, 5, 63, 64} {
		formatted(t, blocks)
		for _, key := range noSealKeys() {
			formatsNothing(t, "no key", key, blocks, impl.ErrBad)
		}
		for _, key := range longKeys {
			formatsNothing(t, "a long key", key, blocks, impl.ErrLong)
		}
	}
}

// A key that is not right is told ahead of too few blocks, of Epochs, of files and of room; a long one, and a long list, ahead of all.
func TestP1KeysThatOpenNoVolume(t *testing.T) {
	disks := slices.Concat(volumeDisks(t), smallVolumes(t), wrongVolumes(t)[:4], []impl.Disk{{}})
	lists := append([][]impl.File{nil, imageFiles(100, 1), imageFiles(1024, 1), imageFiles(1025, 1)}, someWrongFiles()...)
	for _, d := range disks {
		for _, key := range someNoKeys {
			noVolume(t, "no key", key, d, impl.ErrBad)
			for _, epoch := range []int{1, 2, 65535, 0, -1, 65536, math.MaxInt} {
				noEpoch(t, "no key", key, d, epoch, impl.ErrBad)
			}
			for _, files := range lists {
				syncsNothing(t, "no key", key, d, files, impl.ErrBad)
			}
			syncsNothing(t, "no key, and a long list", key, d, manyFiles(impl.MaxList+1), impl.ErrLong)
		}
		for _, key := range longKeys {
			noVolume(t, "a long key", key, d, impl.ErrLong)
			for _, epoch := range []int{1, 2, 0, 65536} {
				noEpoch(t, "a long key", key, d, epoch, impl.ErrLong)
			}
			for _, files := range append(slices.Clone(lists), manyFiles(impl.MaxList+1)) {
				syncsNothing(t, "a long key", key, d, files, impl.ErrLong)
			}
		}
	}
	d := synced(t, formatted(t, 9), imageFiles(150, 1))
	for _, key := range noSealKeys() {
		noVolume(t, "no key", key, d, impl.ErrBad)
		noEpoch(t, "no key", key, d, 2, impl.ErrBad)
		syncsNothing(t, "no key", key, d, nil, impl.ErrBad)
	}
}

func TestP1DisksThatHaveNoVolume(t *testing.T) {
	lists := append([][]impl.File{nil, imageFiles(100, 1), imageFiles(1025, 1)}, someWrongFiles()...)
	for want, disks := range map[int][]impl.Disk{impl.ErrBad: append(wrongVolumes(t), wrongDisks(t)...), impl.ErrRange: smallVolumes(t)} {
		for _, d := range disks {
			noVolume(t, "no disk", sealKey, d, want)
			for _, epoch := range append([]int{1, 2, 65535}, noVolumeEpochs...) {
				noEpoch(t, "no disk", sealKey, d, epoch, want)
			}
			for _, files := range lists {
				syncsNothing(t, "no disk", sealKey, d, files, want)
			}
			for _, files := range longFileLists() {
				syncsNothing(t, "no disk, and a long list", sealKey, d, files, impl.ErrLong)
			}
		}
	}
}

// Files that are not right are told ahead of all that there is no room for.
func TestP1FilesThatAreNotSynced(t *testing.T) {
	for _, d := range volumeDisks(t) {
		for _, files := range someWrongFiles() {
			syncsNothing(t, "wrong files", sealKey, d, files, impl.ErrBad)
		}
		for _, files := range longFileLists() {
			syncsNothing(t, "a long list", sealKey, d, files, impl.ErrLong)
		}
		for _, size := range []int{1025, 1026, 2000} {
			syncsNothing(t, "too many bytes", sealKey, d, imageFiles(size, 1), impl.ErrFull)
		}
		syncsNothing(t, "too many bytes", sealKey, d, fullestFiles(), impl.ErrFull)
	}
	d := synced(t, formatted(t, 9), imageFiles(150, 1))
	for _, files := range wrongFileLists() {
		syncsNothing(t, "wrong files", sealKey, d, files, impl.ErrBad)
	}
	for _, epoch := range []int{65535, 65536, lastEpoch} {
		for _, files := range [][]impl.File{nil, imageFiles(100, 1)} {
			syncsNothing(t, "no next Epoch", sealKey, wholeAt(t, 9, epoch, 1, nil), files, impl.ErrFull)
		}
	}
	syncsNothing(t, "no free block", sealKey, formatted(t, 4), imageFiles(65, 1), impl.ErrFull)
	syncsNothing(t, "no free block on a new disk", sealKey, ran(t, 4), imageFiles(129, 1), impl.ErrFull)
	if _, code := impl.SyncVolume(sealKey, ran(t, 4), imageFiles(128, 1)); code != impl.OK {
		t.Errorf("SyncVolume into the last free block is %d", code)
	}
}

func TestP1EpochsThatAreNotOpened(t *testing.T) {
	for _, d := range volumeDisks(t) {
		for _, epoch := range noVolumeEpochs {
			noEpoch(t, "no Epoch", sealKey, d, epoch, impl.ErrRange)
		}
		for _, epoch := range []int{4, 5, 255, 256, 257, 258, 65532, 65533} {
			noEpoch(t, "an Epoch that is not there", sealKey, d, epoch, impl.ErrNone)
		}
	}
	d := withBlock(ran(t, 4), 1, slotBytes(t, 1, 65535, "no super"))
	noEpoch(t, "no super", sealKey, d, 65535, impl.ErrCorrupt)
	noEpoch(t, "no super", sealKey, d, 65534, impl.ErrNone)
	two := synced(t, formatted(t, 9), imageFiles(150, 1))
	for _, epoch := range []int{1, 2} {
		noEpoch(t, "its slot is gone", sealKey, stepped(t, two, tamper(epoch%2, "")), epoch, impl.ErrNone)
		noEpoch(t, "its piece is gone", sealKey, stepped(t, two, tamper(1+epoch, "")), epoch, impl.ErrCorrupt)
		epochIs(t, "the other one is gone", stepped(t, two, tamper(1-epoch%2, "")), epoch, impl.OK)
	}
}

func TestP1DisksWithoutAVolume(t *testing.T) {
	for _, d := range rightDisks(t) {
		want := impl.ErrCorrupt
		if len(d.Blocks) < 4 {
			want = impl.ErrRange
		}
		noVolume(t, "no volume", sealKey, d, want)
	}
	for _, d := range []impl.Disk{slotDisk(t, 4, 5), slotSaved(t, ran(t, 8), "one", "two")} {
		for len(d.Blocks) < 8 {
			d.Blocks = append(d.Blocks, "")
		}
		noVolume(t, "slots of something else", sealKey, d, impl.ErrCorrupt)
		syncedByRule(t, "slots of something else", d, imageFiles(70, 1))
	}
}

func TestP1NoListAndAnEmptyOneAreOneVolume(t *testing.T) {
	bare := impl.Disk{Blocks: make([]string, 5)}
	empty := impl.Disk{Blocks: make([]string, 5), Cache: []impl.Pending{}, Saved: []string{}}
	want, code := impl.FormatVolume(sealKey, 5)
	for _, d := range []impl.Disk{bare, empty} {
		for _, files := range [][]impl.File{nil, {}} {
			x, codeX := impl.SyncVolume(sealKey, d, files)
			acts, root, codeA := impl.SyncPlan(sealKey, d, files)
			r, _ := impl.EmptyRoot(sealKey, 5)
			if diskText(x) != diskText(want) || code+codeX+codeA != impl.OK || root != r || len(acts) != 4 {
				t.Errorf("a sync of no files is %.300s, %d", diskText(x), codeX)
			}
		}
	}
}

// volumeAnswers has all that the calls on a disk answer.
type volumeAnswers struct {
	opened, epoch impl.Opened
	acts          []impl.DiskAct
	root          string
	disk          impl.Disk
	codes         [4]int
}

func answersOf(key string, d impl.Disk, epoch int, files []impl.File) (x volumeAnswers) {
	x.opened, x.codes[0] = impl.OpenVolume(key, d)
	x.epoch, x.codes[1] = impl.OpenEpoch(key, d, epoch)
	x.acts, x.root, x.codes[2] = impl.SyncPlan(key, d, files)
	x.disk, x.codes[3] = impl.SyncVolume(key, d, files)
	return x
}

func (x volumeAnswers) String() string {
	return fmt.Sprintf("%s | %s | %s | %x | %s | %v", openedText(x.opened), openedText(x.epoch), actsText(x.acts), x.root, diskText(x.disk), x.codes)
}

func (x volumeAnswers) spoil() {
	spoilFiles(x.opened.Files)
	spoilFiles(x.epoch.Files)
	acts := x.acts[:cap(x.acts)]
	for i := range acts {
		acts[i] = impl.DiskAct{Kind: 9, Data: "spoilt"}
	}
	spoil(x.disk)
}

func TestP1DisksOfVolumesStayAsTheyWere(t *testing.T) {
	disks := append(volumeDisks(t), smallVolumes(t)[0], wrongVolumes(t)[0], stepped(t, synced(t, formatted(t, 9), imageFiles(150, 1)), saveAct, write(3, "x"), write(0, "y")))
	for _, start := range disks {
		for _, list := range append([][]impl.File{nil, imageFiles(150, 1), imageFiles(151, 2), mixedFiles(), imageFiles(1025, 1)}, someWrongFiles()[0]) {
			d, _, whole := roomy(start, impl.DiskAct{})
			files, wholeFiles := roomyFiles(list)
			was := whole() + wholeFiles()
			x := answersOf(sealKey, d, 2, files)
			if whole()+wholeFiles() != was {
				t.Fatalf("a call, %v, makes %.300s of %.300s", x.codes, whole()+wholeFiles(), was)
			}
			y := answersOf(sealKey, d, 2, files)
			want := y.String()
			x.spoil()
			if whole()+wholeFiles() != was || y.String() != want {
				t.Fatalf("what a call, %v, answers is another's memory, or its argument's", y.codes)
			}
			spoil(d)
			spoilFiles(files)
			if y.String() != want {
				t.Fatalf("what a call, %v, answers is its argument's memory", y.codes)
			}
		}
	}
}

func TestP1NoTwoListsOfAVolumeShareMemory(t *testing.T) {
	d := synced(t, stepped(t, formatted(t, 9), saveAct), imageFiles(150, 1))
	saved := fmt.Sprint(d.Saved)
	for i := range d.Blocks {
		d.Blocks[i] = "spoilt"
	}
	_ = append(d.Blocks, "spoilt")
	if fmt.Sprint(d.Saved) != saved {
		t.Error("Blocks and Saved have one memory")
	}
	x, y := formatted(t, 9), formatted(t, 9)
	want := diskText(y)
	spoil(x)
	if diskText(y) != want || diskText(formatted(t, 9)) != want {
		t.Error("two answers of FormatVolume are one memory")
	}
}

// everyVolumeCall tells what each function of volumes answers to inputs drawn from a seed, wrong ones among them.
func everyVolumeCall(seed stream) string {
	s := seed
	key := s.text([]int{32, 32, 32, 32, 32, 31, 33}[s.next()%7])
	blocks := []int{3, 4, 5, 8, 20, 64, 65}[s.next()%7]
	var out []string
	d, code := impl.FormatVolume(key, blocks)
	root, rootCode := impl.EmptyRoot(key, blocks)
	out = append(out, diskText(d), fmt.Sprintf("%d %x %d", code, root, rootCode))
	for range int(s.next()) % 4 {
		if x, code := impl.SyncVolume(key, d, someFiles(&s, 120)); code == impl.OK {
			d = x
		}
		if s.next() < 100 {
			d, _ = impl.DiskStep(d, someAct(&s, 4))
		}
	}
	files := someFiles(&s, 210)
	return strings.Join(out, "\n") + answersOf(key, d, int(s.next())%6-1, files).String()
}

func TestP1AlikeArgumentsHaveAlikeVolumes(t *testing.T) {
	alikeAnswers(t, everyVolumeCall)
}

func TestP1ManyVolumesAtOnce(t *testing.T) {
	alikeAtOnce(t, everyVolumeCall)
}
