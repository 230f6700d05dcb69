package tests

import (
	"fmt"
	"math"
	"slices"
	"strings"
	"testing"

	"loop.example/g00257/impl"
)

// noVoKinds are kinds that neither calls nor acts have, the nearest and the farthest ones, and such as would be right if they were cut.
var noVoKinds = []int{0, 8, -1, 9, -2, -7, 255, 256 + 1, 256 + 3, 1<<32 + 1, 1<<32 + 3, -1<<32 + 2, math.MinInt, math.MinInt + 1, math.MaxInt}

// noMount asks for a code of any arguments, and nothing beside it.
func noMount(t *testing.T, why, key string, d impl.Disk, r impl.Register, want int) {
	t.Helper()
	if m, code := impl.MountVolume(key, d, r); code != want || mountedText(m) != mountedText(impl.Mounted{}) {
		t.Errorf("%s: MountVolume by %d bytes of %.200s and %d, %d, %.100x is %.200s, %d, not %d", why, len(key), diskText(d), r.Volume, r.Counter, r.Root, mountedText(m), code, want)
	}
}

// noRun asks for a code of a run, and nothing beside it.
func noRun(t *testing.T, why, key string, blocks int, acts []impl.VolumeAct, want int) {
	t.Helper()
	if v, replies, code := impl.VolumeRun(key, blocks, acts); code != want || len(replies) != 0 || volumeText(v) != volumeText(impl.Volume{}) {
		t.Errorf("%s: VolumeRun by %d bytes of %d blocks and %d acts is %.200s, %d replies, %d, not %d", why, len(key), blocks, len(acts), volumeText(v), len(replies), code, want)
	}
}

func noNewVolume(t *testing.T, why, key string, blocks, want int) {
	t.Helper()
	if v, code := impl.NewVolume(key, blocks); code != want || volumeText(v) != volumeText(impl.Volume{}) {
		t.Errorf("%s: NewVolume by %d bytes of %d blocks is %.200s, %d, not %d", why, len(key), blocks, volumeText(v), code, want)
	}
}

func noCall(t *testing.T, why string, list []impl.File, c impl.FileCall, want int) {
	t.Helper()
	if next, reply, code := impl.CallFiles(list, c); code != want || len(next) != 0 || reply != (impl.VolumeReply{}) {
		t.Errorf("%s: CallFiles of %s on %.200s is %.200s, %s, %d, not %d", why, callText(c), filesText(list), filesText(next), repliesText(reply), code, want)
	}
}

// replyIs asks for a code within the reply, beside the list as it was.
func replyIs(t *testing.T, why string, list []impl.File, c impl.FileCall, want int) {
	t.Helper()
	if next, reply, code := impl.CallFiles(list, c); code != impl.OK || reply != toldCode(want) || filesText(next) != filesText(list) {
		t.Errorf("%s: CallFiles of %s on %.200s is %.200s, %s, %d, not %d", why, callText(c), filesText(list), filesText(next), repliesText(reply), code, want)
	}
}

func TestP1KindsOfCallsAndActs(t *testing.T) {
	fc := []int{impl.FcMkdir, impl.FcWrite, impl.FcRead, impl.FcCut, impl.FcMove, impl.FcRemove, impl.FcList}
	vo := []int{impl.VoMount, impl.VoCall, impl.VoSync, impl.VoUnmount, impl.VoSave, impl.VoRollback, impl.VoTamper}
	want := []int{1, 2, 3, 4, 5, 6, 7}
	if !slices.Equal(fc, want) || !slices.Equal(vo, want) {
		t.Error("the kinds of calls and acts are", fc, vo)
	}
}

func rightRegisters() []impl.Register {
	return []impl.Register{registerAt(1, otherRoot), registerAt(2, otherRoot), registerAt(65534, otherRoot), {Volume: 255, Counter: 1, Root: strings.Repeat("\x00", 32)}}
}

// wrongRegisters have one fault each, but for the last ones.
func wrongRegisters() []impl.Register {
	var out []impl.Register
	for _, volume := range noByte {
		out = append(out, impl.Register{Volume: volume, Counter: 2, Root: otherRoot})
	}
	for _, counter := range []int{0, -1, -2, -65534, 65535, 65536, 65537, 65538, 999999, 1000000, 1000001, 1<<32 + 1, 1<<32 + 2, -1<<32 + 2, math.MinInt, math.MinInt + 1, math.MaxInt - 1, math.MaxInt} {
		out = append(out, registerAt(counter, otherRoot))
	}
	for _, root := range noRoots {
		out = append(out, registerAt(2, root))
	}
	return append(out, impl.Register{}, impl.Register{Volume: -1, Counter: 65535, Root: longText})
}

// A key or a disk that is not right is told ahead of too few blocks, these ahead of registers, and a long key ahead of all.
func TestP1MountsThatAreRefused(t *testing.T) {
	for _, d := range volumeDisks(t) {
		for _, r := range wrongRegisters() {
			noMount(t, "no register", sealKey, d, r, impl.ErrBad)
		}
		for _, r := range rightRegisters() {
			mountKeepsToRule(t, "a right register", d, r)
		}
	}
	for want, disks := range map[int][]impl.Disk{impl.ErrBad: append(wrongVolumes(t), wrongDisks(t)...), impl.ErrRange: smallVolumes(t)} {
		for _, d := range disks {
			for _, r := range append(rightRegisters(), wrongRegisters()...) {
				noMount(t, "no disk", sealKey, d, r, want)
			}
		}
	}
	disks := slices.Concat(volumeDisks(t)[:6], smallVolumes(t)[:3], wrongVolumes(t)[:3], []impl.Disk{{}})
	for _, d := range disks {
		for _, r := range append(rightRegisters(), wrongRegisters()...) {
			for _, key := range someNoKeys {
				noMount(t, "no key", key, d, r, impl.ErrBad)
			}
			for _, key := range longKeys {
				noMount(t, "a long key", key, d, r, impl.ErrLong)
			}
		}
	}
	d := synced(t, formatted(t, 9), imageFiles(100, 1))
	for _, key := range noSealKeys() {
		noMount(t, "no key", key, d, registerAt(2, rootOn(t, d, 0)), impl.ErrBad)
	}
}

func TestP1VolumesThatAreNotMade(t *testing.T) {
	lists := [][]impl.VolumeAct{nil, {mountsIt}, make([]impl.VolumeAct, 120), make([]impl.VolumeAct, 121), make([]impl.VolumeAct, 4096), {{Data: longText}}, {{Keep: make([]bool, 4097)}}, append(make([]impl.VolumeAct, 121), impl.VolumeAct{Data: longText})}
	tooMany := [][]impl.VolumeAct{make([]impl.VolumeAct, 4097), make([]impl.VolumeAct, 70000), append(make([]impl.VolumeAct, 4096), impl.VolumeAct{Data: longText})}
	for _, blocks := range append([]int{4, 64}, noVolumeBlocks...) {
		right := blocks >= 4 && blocks <= 64
		for _, key := range someNoKeys {
			noNewVolume(t, "no key", key, blocks, impl.ErrBad)
			for _, acts := range lists {
				noRun(t, "no key", key, blocks, acts, impl.ErrBad)
			}
		}
		for _, key := range longKeys {
			noNewVolume(t, "a long key", key, blocks, impl.ErrLong)
			for _, acts := range append(lists, tooMany...) {
				noRun(t, "a long key", key, blocks, acts, impl.ErrLong)
			}
		}
		for _, acts := range tooMany {
			noRun(t, "a long list", sealKey, blocks, acts, impl.ErrLong)
			noRun(t, "a long list, and no key", longText[:31], blocks, acts, impl.ErrLong)
		}
		if right {
			continue
		}
		noNewVolume(t, "no such number of blocks", sealKey, blocks, impl.ErrRange)
		for _, acts := range lists {
			noRun(t, "no such number of blocks", sealKey, blocks, acts, impl.ErrRange)
		}
	}
	for _, key := range noSealKeys() {
		noNewVolume(t, "no key", key, 8, impl.ErrBad)
		noRun(t, "no key", key, 8, nil, impl.ErrBad)
	}
	for _, blocks := range []int{4, 5, 63, 64} {
		if v, code := impl.NewVolume(sealKey, blocks); code != impl.OK || len(v.Disk.Blocks) != blocks {
			t.Errorf("NewVolume of %d blocks is %d", blocks, code)
		}
		didRun(t, "just right", blocks, mountsIt)
	}
}

func TestP1NumbersOfActs(t *testing.T) {
	for _, n := range []int{0, 1, 2, 119, 120} {
		v, replies := didRun(t, "acts of no kind", 5, make([]impl.VolumeAct, n)...)
		fresh, _ := impl.NewVolume(sealKey, 5)
		if volumeText(v) != volumeText(fresh) || slices.ContainsFunc(replies, func(r impl.VolumeReply) bool { return r != toldCode(impl.ErrForm) }) {
			t.Errorf("%d acts of no kind make %.300s", n, volumeText(v))
		}
	}
	for _, n := range []int{121, 122, 1000, 4095, 4096} {
		noRun(t, "too many", sealKey, 5, make([]impl.VolumeAct, n), impl.ErrMany)
		noRun(t, "too many, and no room", sealKey, 5, slices.Repeat([]impl.VolumeAct{mountsIt}, n), impl.ErrMany)
	}
	all := []impl.VolumeAct{mountsIt}
	for i := range 59 {
		all = append(all, writes("a", fmt.Sprint(i)), syncsIt)
	}
	v, replies := runKeepsToRule(t, "many syncs", 5, append(all, unmountsIt)...)
	if v.Register.Counter != 60 || len(replies) != 120 {
		t.Errorf("the Counter behind 59 syncs is %d", v.Register.Counter)
	}
	noRun(t, "one too many", sealKey, 5, append(all, unmountsIt, mountsIt), impl.ErrMany)
}

// longVoActs have one act each that has something too long, at the first place, the last one, or between, whatever its kind.
func longVoActs(n int) [][]impl.VolumeAct {
	var out [][]impl.VolumeAct
	for _, kind := range append([]int{1, 2, 3, 4, 5, 6, 7}, noVoKinds...) {
		for _, a := range []impl.VolumeAct{
			{Data: longText}, {Call: impl.FileCall{Path: longText}}, {Call: impl.FileCall{To: longText}}, {Call: impl.FileCall{Data: longText}}, {Keep: make([]bool, impl.MaxList+1)},
			{At: -1, Data: longText + longText, Keep: make([]bool, 70000), Call: impl.FileCall{Kind: 2, Path: longText, To: longText, Data: longText}},
		} {
			for _, i := range []int{0, n / 2, n - 1} {
				acts := make([]impl.VolumeAct, n)
				a.Kind = kind
				acts[i] = a
				out = append(out, acts)
			}
		}
	}
	return out
}

func TestP1TextsOfActsThatAreTooLong(t *testing.T) {
	for _, acts := range longVoActs(120) {
		noRun(t, "long", sealKey, 4, acts, impl.ErrLong)
	}
	for _, acts := range longVoActs(1) {
		noRun(t, "long", sealKey, 64, acts, impl.ErrLong)
		noRun(t, "long, and too few blocks", sealKey, 3, acts, impl.ErrRange)
		noRun(t, "long, and no key", longText[:31], 64, acts, impl.ErrBad)
	}
	for _, acts := range longVoActs(121) {
		noRun(t, "long, and too many", sealKey, 8, acts, impl.ErrMany)
	}
	most := longText[:impl.MaxText]
	keep := make([]bool, impl.MaxList)
	for _, c := range []struct {
		why  string
		act  impl.VolumeAct
		want impl.VolumeReply
	}{
		{"Data that no act needs", impl.VolumeAct{Kind: impl.VoSave, Data: most, Keep: keep}, impl.VolumeReply{}},
		{"a write of too much", calls(writeAt("a", 0, most)), toldCode(impl.ErrRange)},
		{"a path that is none", calls(mkdir(most)), toldCode(impl.ErrPath)},
		{"a move to what is no path", calls(move("a", most)), toldCode(impl.ErrPath)},
		{"texts that a call does not need", impl.VolumeAct{Kind: impl.VoCall, Call: impl.FileCall{Kind: impl.FcList, To: most, Data: most}, Data: most}, impl.VolumeReply{}},
		{"Keep of a sync that is not cut", impl.VolumeAct{Kind: impl.VoSync, Keep: keep, Torn: math.MaxInt}, impl.VolumeReply{}},
		{"Keep of a sync that is", impl.VolumeAct{Kind: impl.VoSync, Keep: keep, Cut: 1, Data: most}, toldCode(impl.ErrAway)},
	} {
		runTells(t, c.why, []impl.VolumeAct{mountsIt, c.act}, c.want)
	}
	runTells(t, "tampering with just too much", []impl.VolumeAct{tampers(2, longestBlock), tampers(2, longBlock), tampers(2, most)}, impl.VolumeReply{}, toldCode(impl.ErrLong), toldCode(impl.ErrLong))
}

// Kinds that there are not are told ahead of paths that are none; files that are not right, and what is too long, ahead of both.
func TestP1CallsOfNoKind(t *testing.T) {
	lists := append(rightFiles(), crowded())
	for _, kind := range noVoKinds {
		for _, list := range lists {
			for _, p := range []string{"a", "a/b", "new", "", "/", "a//b", longText[:41], longText[:impl.MaxText]} {
				replyIs(t, "no kind", list, impl.FileCall{Kind: kind, Path: p, To: "/", At: -1, N: -1, Data: longText[:201]}, impl.ErrForm)
			}
		}
		for _, list := range someWrongFiles() {
			noCall(t, "no kind, on wrong files", list, impl.FileCall{Kind: kind, Path: "/"}, impl.ErrBad)
			noCall(t, "no kind, on wrong files, long", list, impl.FileCall{Kind: kind, Path: longText}, impl.ErrLong)
		}
		for _, list := range longFileLists() {
			noCall(t, "no kind, on a long list", list, impl.FileCall{Kind: kind, Path: "/"}, impl.ErrLong)
		}
		for _, p := range longPaths {
			noCall(t, "no kind, a long Path", nil, impl.FileCall{Kind: kind, Path: p}, impl.ErrLong)
			noCall(t, "no kind, a long To", nil, impl.FileCall{Kind: kind, To: p}, impl.ErrLong)
			noCall(t, "no kind, long Data", nil, impl.FileCall{Kind: kind, Data: p}, impl.ErrLong)
		}
	}
}

func TestP1CallsThatAreRefused(t *testing.T) {
	for kind := 1; kind <= 7; kind++ {
		right := impl.FileCall{Kind: kind, Path: "a", To: "b", N: 1, Data: "x"}
		for _, list := range wrongFileLists() {
			noCall(t, "wrong files", list, right, impl.ErrBad)
			noCall(t, "wrong files, and no path", list, impl.FileCall{Kind: kind, Path: "/", To: "/", At: -1, N: -1}, impl.ErrBad)
		}
		for _, list := range longFileLists() {
			noCall(t, "a long list", list, right, impl.ErrLong)
			noCall(t, "a long list, and no path", list, impl.FileCall{Kind: kind, Path: "/"}, impl.ErrLong)
		}
		for _, list := range append(someWrongFiles(), rightFiles()...) {
			for _, long := range []string{longText, longText + longText} {
				for _, c := range []impl.FileCall{{Path: long}, {Path: "a", To: long}, {Path: "a", To: "b", Data: long}, {Path: "/", To: long}, {Path: "", Data: long}, {Path: long, To: long, Data: long, At: -1, N: -1}} {
					c.Kind = kind
					noCall(t, "a long text, whether it is needed or not", list, c, impl.ErrLong)
				}
			}
		}
		for _, list := range append(rightFiles(), crowded()) {
			for _, p := range append([]string{""}, noPaths...) {
				if kind != impl.FcList || p != "" {
					replyIs(t, "no path", list, impl.FileCall{Kind: kind, Path: p, To: "b", At: -1, N: -1, Data: longText[:201]}, impl.ErrPath)
				}
				if kind == impl.FcMove {
					replyIs(t, "no path to move to", list, impl.FileCall{Kind: kind, Path: "a", To: p}, impl.ErrPath)
					replyIs(t, "no path to move to, nothing there", list, impl.FileCall{Kind: kind, Path: "none", To: p}, impl.ErrPath)
				} else {
					callKeepsToRule(t, "To is not needed", list, impl.FileCall{Kind: kind, Path: "a", To: p})
				}
			}
		}
	}
}

// Many faults at once, and all of them at calls of each kind.
func TestP1CallsOnFilesWithManyFaults(t *testing.T) {
	paths := []string{"a", "a/b", "a/b/c", "e", "f", "x", "x/y", "f/y", "", "/", longText[:41], longText}
	numbers := []int{0, 4, 200, 201, -1, math.MinInt, math.MaxInt}
	texts := []string{"", "x", longText[:201], longText[:impl.MaxText], longText}
	for _, list := range [][]impl.File{nil, crowded(), crowded()[:6], wrongFileLists()[0], longFileLists()[0]} {
		for kind := 0; kind <= 8; kind++ {
			for _, p := range paths {
				for _, to := range paths {
					callKeepsToRule(t, "paths", list, impl.FileCall{Kind: kind, Path: p, To: to, N: 1})
				}
				for _, at := range numbers {
					for _, n := range numbers {
						callKeepsToRule(t, "numbers", list, impl.FileCall{Kind: kind, Path: p, To: "e", At: at, N: n})
					}
					for _, data := range texts {
						callKeepsToRule(t, "data", list, impl.FileCall{Kind: kind, Path: p, To: "z", At: at, N: at, Data: data})
					}
				}
			}
		}
	}
}

func TestP1TextsOfFilesThatAreNotRight(t *testing.T) {
	for want, lists := range map[int][][]impl.File{impl.ErrBad: wrongFileLists(), impl.ErrLong: longFileLists()} {
		for _, list := range lists {
			if text, code := impl.FilesText(list); text != "" || code != want {
				t.Errorf("FilesText of %.200s is %.200q, %d, not %d", filesText(list), text, code, want)
			}
		}
	}
}

// Each act in each state, with all other faults beside: which one is told.
func TestP1OrderOfCodesOfActs(t *testing.T) {
	odd := impl.FileCall{Kind: 9, Path: "/", To: "/", At: -1, N: -1}
	act := func(kind int) impl.VolumeAct {
		return impl.VolumeAct{Kind: kind, At: -1, Cut: 1, Call: odd, Data: longBlock, Keep: []bool{true}, Torn: -1, Lost: true, Reached: true}
	}
	away, twice, form := toldCode(impl.ErrAway), toldCode(impl.ErrTwice), toldCode(impl.ErrForm)
	for _, kind := range noVoKinds {
		runTells(t, "no kind, not Mounted", []impl.VolumeAct{act(kind)}, form)
		runTells(t, "no kind, Mounted", []impl.VolumeAct{mountsIt, act(kind)}, form)
	}
	for _, kind := range []int{impl.VoCall, impl.VoSync, impl.VoUnmount} {
		runTells(t, "not Mounted", []impl.VolumeAct{act(kind)}, away)
		runTells(t, "Mounted no more", []impl.VolumeAct{mountsIt, unmountsIt, act(kind)}, away)
		runTells(t, "cut", []impl.VolumeAct{mountsIt, cutSync(1, 0), act(kind)}, away, away)
		runTells(t, "lost", []impl.VolumeAct{mountsIt, lostSync(true), act(kind)}, away, away)
		runTells(t, "stale", []impl.VolumeAct{savesIt, mountsIt, syncsIt, unmountsIt, rollsBack, mountsIt, act(kind)}, toldCode(impl.ErrStale), away)
	}
	for _, kind := range []int{impl.VoMount, impl.VoRollback, impl.VoTamper} {
		runTells(t, "Mounted", []impl.VolumeAct{mountsIt, act(kind)}, twice)
		runTells(t, "Mounted, and saved", []impl.VolumeAct{savesIt, mountsIt, syncsIt, act(kind)}, twice)
	}
	runTells(t, "nothing is saved", []impl.VolumeAct{act(impl.VoRollback)}, toldCode(impl.ErrNone))
	runTells(t, "a block that is not there, too much", []impl.VolumeAct{act(impl.VoTamper)}, toldCode(impl.ErrRange))
	for _, at := range noPlaces(12) {
		runTells(t, "a block that is not there", []impl.VolumeAct{tampers(at, "x"), tampers(at, longBlock)}, toldCode(impl.ErrRange), toldCode(impl.ErrRange))
	}
	runTells(t, "too much", []impl.VolumeAct{tampers(11, longBlock), tampers(0, longText[:impl.MaxText])}, toldCode(impl.ErrLong), toldCode(impl.ErrLong))
	runTells(t, "a call of no kind", []impl.VolumeAct{mountsIt, act(impl.VoCall)}, form)
	runTells(t, "a call at no path", []impl.VolumeAct{mountsIt, calls(writeAt("/", -1, longBlock))}, toldCode(impl.ErrPath))
	runTells(t, "a sync that is cut", []impl.VolumeAct{mountsIt, act(impl.VoSync)}, away)
	runTells(t, "an unmount, a save", []impl.VolumeAct{act(impl.VoSave), mountsIt, act(impl.VoSave), act(impl.VoUnmount), act(impl.VoSave)}, impl.VolumeReply{}, impl.VolumeReply{}, impl.VolumeReply{}, impl.VolumeReply{}, impl.VolumeReply{})
}

// What an act with a code would have changed is seen by leaving it out; a sync that was not answered alone does change something.
func TestP1ActsWithACodeChangeNothing(t *testing.T) {
	for seed := range 25 {
		s := stream(21000 + seed)
		draw := func(s *stream, p *plain) impl.VolumeAct {
			if s.next() < 40 {
				return tampers(int(s.next())%10-1, s.text(int(s.next())))
			}
			return someVolumeAct(s, p, true)
		}
		acts := someRun(t, &s, 8, 90, draw)
		v, replies := didRun(t, "all", 8, acts...)
		var kept []impl.VolumeAct
		var told []impl.VolumeReply
		mounted := false
		for i, a := range acts {
			code := replies[i].Code
			if code == impl.OK || a.Kind == impl.VoSync && code == impl.ErrAway && mounted {
				kept, told = append(kept, a), append(told, replies[i])
				mounted = a.Kind == impl.VoMount || mounted && a.Kind != impl.VoUnmount && code == impl.OK
			}
		}
		w, again := didRun(t, "without those that have a code", 8, kept...)
		if !slices.Equal(again, told) || volumeText(w) != volumeText(v) {
			t.Fatalf("seed %d: %d acts that have a code change something: %.300s, not %.300s", seed, len(acts)-len(kept), volumeText(v), volumeText(w))
		}
	}
}

func TestP1NoListAndAnEmptyOneAreOneRun(t *testing.T) {
	none, noReplies, _ := impl.VolumeRun(sealKey, 5, nil)
	empty, emptyReplies, _ := impl.VolumeRun(sealKey, 5, []impl.VolumeAct{})
	if volumeText(none) != volumeText(empty) || len(noReplies)+len(emptyReplies) != 0 {
		t.Errorf("VolumeRun of nil is %.300s, of an empty list %.300s", volumeText(none), volumeText(empty))
	}
	for number := range 6 {
		a, b := cutSync(number, 3), cutSync(number, 3)
		a.Keep, b.Keep = nil, []bool{}
		v, _ := didRun(t, "Keep is nil", 5, mountsIt, writes("a", "x"), a)
		w, _ := didRun(t, "Keep is empty", 5, mountsIt, writes("a", "x"), b)
		if volumeText(v) != volumeText(w) {
			t.Errorf("Cut %d is another one with nil", number)
		}
	}
	for kind := range 9 {
		c := impl.FileCall{Kind: kind, Path: "a", To: "b", Data: "x"}
		x, r, code := impl.CallFiles(nil, c)
		y, q, other := impl.CallFiles([]impl.File{}, c)
		if filesText(x) != filesText(y) || r != q || code != other {
			t.Errorf("CallFiles of kind %d is another one with nil", kind)
		}
	}
	bare := formatted(t, 5)
	full := impl.Disk{Blocks: bare.Blocks, Cache: []impl.Pending{}, Saved: []string{}}
	mountsAs(t, "empty lists", full, registerAt(1, rootOn(t, bare, 1)), 1, false, nil)
}

func TestP1DisksThatAreMountedStayAsTheyWere(t *testing.T) {
	two := synced(t, formatted(t, 9), imageFiles(150, 1), imageFiles(90, 2))
	disks := []impl.Disk{two, stepped(t, two, saveAct, write(3, "x")), fullDisk(t), wrongVolumes(t)[0], smallVolumes(t)[0], {}}
	for _, start := range disks {
		for _, r := range []impl.Register{registerAt(3, rootOn(t, two, 1)), registerAt(2, otherRoot), registerAt(1, otherRoot), registerAt(9, otherRoot), {}} {
			d, _, whole := roomy(start, impl.DiskAct{})
			was := whole()
			x, code := impl.MountVolume(sealKey, d, r)
			y, again := impl.MountVolume(sealKey, d, r)
			want := mountedText(y)
			if whole() != was || mountedText(x) != want || code != again {
				t.Fatalf("MountVolume, %d, makes %.300s of %.300s, or answers %.300s, then %.300s", code, whole(), was, mountedText(x), want)
			}
			spoilFiles(x.Opened.Files)
			spoil(d)
			if mountedText(y) != want {
				t.Fatalf("what MountVolume, %d, answers is another's memory, or its argument's", code)
			}
		}
	}
}

func TestP1FilesThatAreCalledStayAsTheyWere(t *testing.T) {
	lists := append(rightFiles(), crowded())
	for _, start := range append(lists, wrongFileLists()[:10]...) {
		var acts []fileAct
		for _, p := range []string{"new", "a", "a/b", "f", "/", ""} {
			acts = append(acts, actsAt(p)...)
		}
		cs := []impl.FileCall{{}, {Kind: 8, Path: "a"}}
		for _, a := range acts {
			cs = append(cs, callOf(a))
		}
		for _, c := range cs {
			list, whole := roomyFiles(start)
			was := whole()
			x, reply, code := impl.CallFiles(list, c)
			y, again, _ := impl.CallFiles(list, c)
			want := filesText(y)
			impl.FilesText(list)
			if whole() != was || filesText(x) != want || reply != again {
				t.Fatalf("CallFiles of %s, %d, makes %.300s of %.300s, or answers %.300s, then %.300s", callText(c), code, whole(), was, filesText(x), want)
			}
			spoilFiles(x)
			if whole() != was || filesText(y) != want {
				t.Fatalf("what CallFiles of %s, %s, answers is another's memory, or its argument's", callText(c), repliesText(reply))
			}
			spoilFiles(list)
			if filesText(y) != want {
				t.Fatalf("what CallFiles of %s, %s, answers is its argument's memory", callText(c), repliesText(reply))
			}
		}
	}
}

// spoilVolume writes over all memory of a volume's lists.
func spoilVolume(v impl.Volume) {
	spoil(v.Disk)
	spoilFiles(v.Files)
}

func TestP1ActsStayAsTheyWere(t *testing.T) {
	keep := []bool{true, false, true, true, true}
	acts := append([]impl.VolumeAct{mountsIt, writes("a", "one"), savesIt, syncsIt, writes("b", longText[:150]), {Kind: impl.VoSync, Cut: 3, Keep: keep[:2], Torn: 9}, mountsIt, calls(mkdir("d")), syncsIt}, writes("behind", "x"), syncsIt)
	list := acts[:9]
	tell := func() string {
		out := fmt.Sprint(keep)
		for _, a := range acts {
			out += voActText(a)
		}
		return out
	}
	was := tell()
	v, replies, code := impl.VolumeRun(sealKey, 9, list)
	w, again, _ := impl.VolumeRun(sealKey, 9, list)
	want, wantReplies := volumeText(w), repliesText(again...)
	if tell() != was || code != impl.OK || volumeText(v) != want || repliesText(replies...) != wantReplies || !v.Mounted || len(v.Disk.Saved) != 9 || len(v.Files) != 2 {
		t.Fatalf("VolumeRun, %d, makes %.300s of %.300s, or answers %.300s, then %.300s", code, tell(), was, volumeText(v), want)
	}
	spoilVolume(v)
	for i := range replies[:cap(replies)] {
		replies[:cap(replies)][i] = toldText("spoilt")
	}
	clear(keep)
	clear(acts)
	if volumeText(w) != want || repliesText(again...) != wantReplies {
		t.Fatal("what VolumeRun answers is another's memory, or its argument's")
	}
	saved := fmt.Sprint(w.Disk.Saved)
	for i := range w.Disk.Blocks {
		w.Disk.Blocks[i] = "spoilt"
	}
	if fmt.Sprint(w.Disk.Saved) != saved {
		t.Error("Blocks and Saved have one memory")
	}
}

func TestP1VolumesThatAreMadeAreNewMemory(t *testing.T) {
	x, _ := impl.NewVolume(sealKey, 9)
	y, _ := impl.NewVolume(sealKey, 9)
	want := volumeText(y)
	spoilVolume(x)
	z, _ := impl.NewVolume(sealKey, 9)
	if volumeText(y) != want || volumeText(z) != want {
		t.Error("two answers of NewVolume are one memory")
	}
	v, _, _ := impl.VolumeRun(sealKey, 9, []impl.VolumeAct{savesIt, rollsBack})
	saved := fmt.Sprint(v.Disk.Saved)
	for i := range v.Disk.Blocks {
		v.Disk.Blocks[i] = "spoilt"
	}
	if len(v.Disk.Saved) != 9 || fmt.Sprint(v.Disk.Saved) != saved {
		t.Error("Blocks that were rolled back and Saved have one memory")
	}
}

// oddVolumeAct draws acts without looking at what they do, wrong ones among them.
func oddVolumeAct(s *stream) impl.VolumeAct {
	a := someSync(s)
	a.Kind = int(s.next())%9 + int(s.next())%40/39
	a.At, a.Data = int(s.next())%12-1, s.text(int(s.next())%210)
	a.Call = callOf(someFileAct(s, mixedFiles()))
	if s.next() < 20 {
		a.Call.Kind = int(s.next())
	}
	return a
}

// everyMountCall tells what each function of mounts answers to inputs drawn from a seed, wrong ones among them.
func everyMountCall(seed stream) string {
	s := seed
	key := s.text([]int{32, 32, 32, 32, 32, 31, 33}[s.next()%7])
	blocks := []int{3, 4, 5, 8, 20, 64, 65}[s.next()%7]
	acts := []impl.VolumeAct{mountsIt}
	for range int(s.next()) % 30 {
		acts = append(acts, oddVolumeAct(&s), []impl.VolumeAct{mountsIt, writes("a", s.text(9)), syncsIt}[s.next()%3])
	}
	fresh, code := impl.NewVolume(key, blocks)
	v, replies, runCode := impl.VolumeRun(key, blocks, acts)
	m, mountCode := impl.MountVolume(key, v.Disk, v.Register)
	n, otherCode := impl.MountVolume(key, fresh.Disk, v.Register)
	list := rightFiles()[int(s.next())%len(rightFiles())]
	text, textCode := impl.FilesText(list)
	next, reply, callCode := impl.CallFiles(list, oddVolumeAct(&s).Call)
	return strings.Join([]string{volumeText(fresh), volumeText(v), repliesText(replies...), mountedText(m), mountedText(n), text, filesText(next), repliesText(reply), fmt.Sprint(code, runCode, mountCode, otherCode, textCode, callCode)}, "\n")
}

func TestP1AlikeArgumentsHaveAlikeMounts(t *testing.T) {
	alikeAnswers(t, everyMountCall)
}

func TestP1ManyMountsAtOnce(t *testing.T) {
	alikeAtOnce(t, everyMountCall)
}
