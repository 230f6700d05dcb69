package tests

import (
	"fmt"
	"math"
	"slices"
	"strings"
	"testing"

	"loop.example/g00257/impl"
)

// callKinds are the kinds of calls by the functions that they are.
var callKinds = map[string]int{"MakeDir": 1, "WriteFile": 2, "ReadFile": 3, "CutFile": 4, "MoveFile": 5, "RemoveFile": 6, "ListDir": 7}

var (
	mountsIt   = impl.VolumeAct{Kind: impl.VoMount}
	syncsIt    = impl.VolumeAct{Kind: impl.VoSync}
	unmountsIt = impl.VolumeAct{Kind: impl.VoUnmount}
	savesIt    = impl.VolumeAct{Kind: impl.VoSave}
	rollsBack  = impl.VolumeAct{Kind: impl.VoRollback}
)

func callOf(a fileAct) impl.FileCall {
	return impl.FileCall{Kind: callKinds[a.call], At: a.at, N: a.n, Path: a.p, To: a.to, Data: a.data}
}

func calls(a fileAct) impl.VolumeAct { return impl.VolumeAct{Kind: impl.VoCall, Call: callOf(a)} }

func writes(p, data string) impl.VolumeAct { return calls(writeAt(p, 0, data)) }

func tampers(at int, data string) impl.VolumeAct {
	return impl.VolumeAct{Kind: impl.VoTamper, At: at, Data: data}
}

func cutSync(number, torn int, keep ...bool) impl.VolumeAct {
	return impl.VolumeAct{Kind: impl.VoSync, Cut: number, Keep: keep, Torn: torn}
}

func lostSync(reached bool) impl.VolumeAct {
	return impl.VolumeAct{Kind: impl.VoSync, Lost: true, Reached: reached}
}

func mountedText(m impl.Mounted) string {
	return fmt.Sprintf("%s, Pending %v", openedText(m.Opened), m.Pending)
}

func volumeText(v impl.Volume) string {
	return fmt.Sprintf("%s | %d %d %x | %v | %s", diskText(v.Disk), v.Register.Volume, v.Register.Counter, v.Register.Root, v.Mounted, filesText(v.Files))
}

func callText(c impl.FileCall) string {
	return fmt.Sprintf("{kind %d, at %d, %d, %.60q, %.60q, %d bytes %.60q}", c.Kind, c.At, c.N, c.Path, c.To, len(c.Data), c.Data)
}

func voActText(a impl.VolumeAct) string {
	return fmt.Sprintf("{kind %d, at %d, cut %d, call %s, %.60q, kept %v, torn %d, lost %v, reached %v}", a.Kind, a.At, a.Cut, callText(a.Call), a.Data, a.Keep, a.Torn, a.Lost, a.Reached)
}

func repliesText(list ...impl.VolumeReply) string {
	var out []string
	for _, r := range list {
		out = append(out, fmt.Sprintf("%d %.300q", r.Code, r.Text))
	}
	return strings.Join(out, ", ")
}

func toldCode(code int) impl.VolumeReply { return impl.VolumeReply{Code: code} }

func toldText(text string) impl.VolumeReply { return impl.VolumeReply{Text: text} }

// linesByRule is the text of files.
func linesByRule(list []impl.File) string {
	out := ""
	for _, f := range list {
		if f.Dir {
			out += fmt.Sprintf("%s/%c", f.Path, 10)
		} else {
			out += fmt.Sprintf("%s %s%c", f.Path, f.Data, 10)
		}
	}
	return out
}

// callByRule is what a call should answer.
func callByRule(list []impl.File, c impl.FileCall) ([]impl.File, impl.VolumeReply, int) {
	if len(list) > 4096 || max(len(c.Path), len(c.To), len(c.Data)) > 65536 {
		return nil, impl.VolumeReply{}, impl.ErrLong
	}
	if !rightByRule(list) {
		return nil, impl.VolumeReply{}, impl.ErrBad
	}
	for name, kind := range callKinds {
		if kind != c.Kind {
			continue
		}
		a := fileAct{name, c.Path, c.To, c.At, c.N, c.Data}
		x := a.byRule(list)
		if a.changesFiles() && x.code == impl.OK {
			list = x.list
		}
		return list, impl.VolumeReply{Code: x.code, Text: x.text + strings.Join(x.names, " ")}, impl.OK
	}
	return list, toldCode(impl.ErrForm), impl.OK
}

func callKeepsToRule(t *testing.T, why string, list []impl.File, c impl.FileCall) ([]impl.File, impl.VolumeReply) {
	t.Helper()
	next, reply, code := impl.CallFiles(list, c)
	wantNext, wantReply, want := callByRule(list, c)
	if filesText(next) != filesText(wantNext) || reply != wantReply || code != want {
		t.Fatalf("%s: CallFiles of %s on %.300s\nis  %.600s, %s, %d\nnot %.600s, %s, %d", why, callText(c), filesText(list), filesText(next), repliesText(reply), code, filesText(wantNext), repliesText(wantReply), want)
	}
	return next, reply
}

// mountByRule wants arguments that are right.
func mountByRule(t *testing.T, key string, d impl.Disk, r impl.Register) (impl.Mounted, int) {
	t.Helper()
	blocks := readingOf(d)
	slots := []told{tellsByRule(t, key, blocks, 0), tellsByRule(t, key, blocks, 1)}
	next, now := slots[(r.Counter+1)%2], slots[r.Counter%2]
	if next.whole && next.Epoch == r.Counter+1 {
		return impl.Mounted{Opened: next.Opened, Pending: true}, impl.OK
	}
	if now.whole && now.Epoch == r.Counter && now.Root == r.Root {
		return impl.Mounted{Opened: now.Opened}, impl.OK
	}
	if now.Epoch == r.Counter && !now.whole {
		return impl.Mounted{}, impl.ErrCorrupt
	}
	for _, s := range slots {
		if s.Epoch > 0 && s.Epoch <= r.Counter { // an Epoch of 0 is that of no slot
			return impl.Mounted{}, impl.ErrStale
		}
	}
	return impl.Mounted{}, impl.ErrCorrupt
}

func mountKeepsToRule(t *testing.T, why string, d impl.Disk, r impl.Register) int {
	t.Helper()
	want, wantCode := mountByRule(t, sealKey, d, r)
	m, code := impl.MountVolume(sealKey, d, r)
	if mountedText(m) != mountedText(want) || code != wantCode {
		t.Fatalf("%s: MountVolume by %d, %x is %.300s, %d, not %.300s, %d", why, r.Counter, r.Root, mountedText(m), code, mountedText(want), wantCode)
	}
	return code
}

// mountsAs asks for one Epoch with just these files.
func mountsAs(t *testing.T, why string, d impl.Disk, r impl.Register, epoch int, pending bool, files []impl.File) {
	t.Helper()
	mountKeepsToRule(t, why, d, r)
	m, code := impl.MountVolume(sealKey, d, r)
	if code != impl.OK || m.Opened.Epoch != epoch || m.Pending != pending || filesText(m.Opened.Files) != filesText(files) || !pending && m.Opened.Root != r.Root {
		t.Fatalf("%s: MountVolume by %d is %.300s, %d, not Epoch %d, Pending %v, %.300s", why, r.Counter, mountedText(m), code, epoch, pending, filesText(files))
	}
}

// mountsNot asks for a code, and nothing beside it.
func mountsNot(t *testing.T, why string, d impl.Disk, r impl.Register, want int) {
	t.Helper()
	mountKeepsToRule(t, why, d, r)
	if m, code := impl.MountVolume(sealKey, d, r); code != want || mountedText(m) != mountedText(impl.Mounted{}) {
		t.Fatalf("%s: MountVolume by %d is %.300s, %d, not %d", why, r.Counter, mountedText(m), code, want)
	}
}

func registerAt(counter int, root string) impl.Register {
	return impl.Register{Counter: counter, Root: root}
}

// rootOn is the Root of the slot at a place, as it tells itself.
func rootOn(t *testing.T, d impl.Disk, place int) string {
	t.Helper()
	return tellsByRule(t, sealKey, readingOf(d), place).Root
}

var otherRoot = strings.Repeat("?", 32)

func TestP15MountsWorkedOutByHand(t *testing.T) {
	none, first, second := []impl.File(nil), []impl.File{file("a", "one")}, []impl.File{dir("d"), file("d/a", "two")}
	one := formatted(t, 9)
	two := synced(t, one, first)
	three := synced(t, two, second)
	root1, root2, root3 := rootOn(t, one, 1), rootOn(t, two, 0), rootOn(t, three, 1)
	for _, root := range []string{root1, root2, root3, otherRoot} {
		mountsAs(t, "a sync that was not answered, whatever the Root", two, registerAt(1, root), 2, true, first)
		mountsAs(t, "a sync that was not answered, whatever the Root", three, registerAt(2, root), 3, true, second)
		mountsAs(t, "the next one of two that were not answered", three, registerAt(1, root), 2, true, first)
		for _, d := range []impl.Disk{one, two, three} {
			for _, counter := range []int{4, 5, 6, 255, 256, 257, 65533, 65534} {
				mountsNot(t, "an elder disk", d, registerAt(counter, root), impl.ErrStale)
			}
		}
		mountsNot(t, "an elder disk", one, registerAt(2, root), impl.ErrStale)
		mountsNot(t, "an elder disk", one, registerAt(3, root), impl.ErrStale)
		mountsNot(t, "an elder disk", two, registerAt(3, root), impl.ErrStale)
	}
	mountsAs(t, "new", one, registerAt(1, root1), 1, false, none)
	mountsAs(t, "synced", two, registerAt(2, root2), 2, false, first)
	mountsAs(t, "synced again", three, registerAt(3, root3), 3, false, second)
	for _, root := range []string{otherRoot, withBit(root1, 0), withBit(root1, 255), root2} {
		mountsNot(t, "another Root", one, registerAt(1, root), impl.ErrStale)
	}
	mountsNot(t, "the Root of another Epoch", two, registerAt(2, root1), impl.ErrStale)
	mountsNot(t, "the Root of another Epoch", three, registerAt(3, root2), impl.ErrStale)
	for _, volume := range []int{0, 1, 255} {
		mountsAs(t, "another Volume's number", two, impl.Register{Volume: volume, Counter: 2, Root: root2}, 2, false, first)
	}
}

// Between the disk of an Epoch and the register of another: only the same one, or the next one, is shown.
func TestP15DisksAndRegistersOfAllAges(t *testing.T) {
	d := formatted(t, 12)
	disks, lists := []impl.Disk{d}, [][]impl.File{nil}
	for i := range 9 {
		files := imageFiles(40+25*i, i)
		d = synced(t, d, files)
		disks, lists = append(disks, d), append(lists, files)
	}
	for i, d := range disks {
		for j, other := range disks {
			epoch, r := i+1, registerAt(j+1, rootOn(t, other, (j+1)%2))
			why := fmt.Sprintf("a disk of Epoch %d", epoch)
			switch {
			case r.Counter > epoch:
				mountsNot(t, why, d, r, impl.ErrStale)
			case r.Counter == epoch:
				mountsAs(t, why, d, r, epoch, false, lists[i])
			case r.Counter == epoch-1:
				mountsAs(t, why, d, r, epoch, true, lists[i])
			case r.Counter == epoch-2:
				mountsAs(t, why, d, r, epoch-1, true, lists[i-1])
			default:
				mountsNot(t, why+", all slots above the register", d, r, impl.ErrCorrupt)
			}
		}
	}
}

// slotState is what stands at a slot's place.
type slotState struct {
	what  string // nothing, noise, whole, lacking (a piece), odd (no super)
	epoch int
}

func (x slotState) at(t *testing.T, d impl.Disk, place int) impl.Disk {
	t.Helper()
	first := 2 + 5*place
	switch x.what {
	case "nothing":
		return d
	case "noise":
		return withBlock(d, place, longestBlock)
	case "odd":
		return withBlock(d, place, slotBytes(t, place, x.epoch, "no super"))
	}
	d = laidOut(place, x.epoch, 7, first, imageFiles(70+place, x.epoch)).on(t, d)
	if x.what == "lacking" {
		d.Blocks[first+1] = ""
	}
	return d
}

func slotStates(counter int) []slotState {
	out := []slotState{{what: "nothing"}, {what: "noise"}}
	for epoch := max(1, counter-2); epoch <= counter+2; epoch++ {
		for _, what := range []string{"whole", "lacking", "odd"} {
			out = append(out, slotState{what, epoch})
		}
	}
	return out
}

// All that may stand at the two places, by registers of all Roots.
func TestP15AllThatMayStandAtTheSlots(t *testing.T) {
	seen := map[int]int{}
	for _, counter := range []int{1, 2, 5, 6, 65533, 65534} {
		for _, x := range slotStates(counter) {
			first := x.at(t, ran(t, 14), 0)
			for _, y := range slotStates(counter) {
				d := y.at(t, first, 1)
				for _, root := range []string{rootOn(t, d, 0), rootOn(t, d, 1), otherRoot} {
					if len(root) == 32 {
						seen[mountKeepsToRule(t, fmt.Sprint(x, y), d, registerAt(counter, root))]++
					}
				}
			}
		}
	}
	for _, code := range []int{impl.OK, impl.ErrStale, impl.ErrCorrupt} {
		if seen[code] < 100 {
			t.Errorf("code %d was told only %d times", code, seen[code])
		}
	}
}

func TestP15TheSlotOfTheNextCounter(t *testing.T) {
	for _, counter := range []int{1, 2, 5, 6, 255, 256, 65533, 65534} {
		here, there := counter%2, (counter+1)%2
		now, next := slotState{"whole", counter}, slotState{"whole", counter + 1}
		base := now.at(t, ran(t, 14), here)
		r, files := registerAt(counter, rootOn(t, base, here)), imageFiles(70+here, counter)
		mountsAs(t, "alone", base, r, counter, false, files)
		both := next.at(t, base, there)
		mountsAs(t, "beside a whole one with the register's Root", both, r, counter+1, true, imageFiles(70+there, counter+1))
		mountsAs(t, "beside none", next.at(t, ran(t, 14), there), r, counter+1, true, imageFiles(70+there, counter+1))
		for _, x := range []slotState{{"lacking", counter}, {"odd", counter}, {"noise", 0}, {"whole", counter + 2}, {"lacking", counter + 2}} {
			mountsAs(t, "beside "+x.what, next.at(t, x.at(t, ran(t, 14), here), there), r, counter+1, true, imageFiles(70+there, counter+1))
		}
		for _, x := range []slotState{{"lacking", counter + 1}, {"odd", counter + 1}, {"noise", 0}, {"nothing", 0}, {"whole", counter + 3}, {"lacking", counter + 3}, {"odd", counter + 3}} {
			mountsAs(t, "not whole, or another: "+x.what, x.at(t, base, there), r, counter, false, files)
		}
		mountsNot(t, "at the other place", next.at(t, ran(t, 14), here), r, impl.ErrCorrupt)
		mountsNot(t, "at the other place, beside an elder one", slotState{"odd", counter}.at(t, next.at(t, ran(t, 14), here), there), r, impl.ErrStale)
		odd := slotState{"whole", counter}.at(t, ran(t, 14), there)
		mountsNot(t, "the register's at the other place", odd, registerAt(counter, rootOn(t, odd, there)), impl.ErrStale)
	}
}

func TestP15TheSlotOfTheCounter(t *testing.T) {
	for _, counter := range []int{1, 2, 5, 6, 65533, 65534} {
		here, there := counter%2, (counter+1)%2
		blank := ran(t, 14)
		whole := slotState{"whole", counter}.at(t, blank, here)
		root := rootOn(t, whole, here)
		for bit := range 256 {
			if bit%17 == 0 {
				mountsNot(t, "another Root", whole, registerAt(counter, withBit(root, bit)), impl.ErrStale)
			}
		}
		for _, what := range []string{"lacking", "odd"} {
			bad := slotState{what, counter}.at(t, blank, here)
			mountsNot(t, "not whole: "+what, bad, registerAt(counter, root), impl.ErrCorrupt)
			for _, x := range []slotState{{"noise", 0}, {"whole", counter}, {"odd", 1}, {"lacking", counter}, {"odd", counter + 1}, {"lacking", counter + 1}, {"whole", counter + 2}, {"odd", 65535}} {
				mountsNot(t, "not whole, beside "+x.what, x.at(t, bad, there), registerAt(counter, root), impl.ErrCorrupt)
			}
		}
		for _, x := range []slotState{{"whole", 1}, {"lacking", 1}, {"odd", 1}, {"whole", counter}, {"lacking", counter}, {"odd", counter}} {
			mountsNot(t, "an elder one at the other place: "+x.what, x.at(t, blank, there), registerAt(counter, root), impl.ErrStale)
			for _, y := range []slotState{{"noise", 0}, {"whole", counter + 1}, {"odd", counter + 1}, {"whole", counter + 2}, {"odd", lastEpoch}} {
				mountsNot(t, "beside "+y.what, y.at(t, x.at(t, blank, there), here), registerAt(counter, root), impl.ErrStale)
			}
		}
		for _, what := range []string{"whole", "lacking", "odd"} {
			if counter > 1 {
				mountsNot(t, "an elder one at its place: "+what, slotState{what, counter - 1}.at(t, blank, here), registerAt(counter, root), impl.ErrStale)
			}
			for _, epoch := range []int{counter + 1, counter + 2, 65536, lastEpoch} {
				mountsNot(t, "a later one: "+what, slotState{what, epoch}.at(t, blank, here), registerAt(counter, root), impl.ErrCorrupt)
			}
		}
		mountsNot(t, "no slot", blank, registerAt(counter, root), impl.ErrCorrupt)
		for _, other := range []string{"x", "\x00\x00\x00\x01", slotByRule(t, sealKey, "piece", here, counter, "x"), slotByRule(t, withBit(sealKey, 3), "slot", here, counter, "x"), slotByRule(t, sealKey, "slot", there, counter, "x"), slotByRule(t, sealKey, "slot", here, counter, longText[:171])} {
			mountsNot(t, "nothing that opens", withBlock(withBlock(blank, here, other), there, "x"), registerAt(counter, root), impl.ErrCorrupt)
		}
	}
}

func TestP15TheLastCounters(t *testing.T) {
	files := imageFiles(70, 65535)
	d := wholeAt(t, 9, 65535, 65535, files)
	root := newestByRule(t, sealKey, d.Blocks).Root
	mountsAs(t, "the last Epoch", d, registerAt(65534, root), 65535, true, files)
	for _, counter := range []int{65535, 65536, 65537, 1 << 17, 999999, 1000000} {
		noMount(t, "no Epoch behind it", sealKey, d, registerAt(counter, root), impl.ErrBad)
	}
	first := wholeAt(t, 9, 1, 1, files)
	mountsAs(t, "the first Epoch", first, registerAt(1, newestByRule(t, sealKey, first.Blocks).Root), 1, false, files)
	noMount(t, "no Epoch ahead of it", sealKey, first, registerAt(0, newestByRule(t, sealKey, first.Blocks).Root), impl.ErrBad)
}

// A disk mounts as it reads, with what waits in its Cache, though that may be full.
func TestP15WhatWaitsInTheCacheMounts(t *testing.T) {
	one := formatted(t, 12)
	files := imageFiles(100, 3)
	acts, root, _ := impl.SyncPlan(sealKey, one, files)
	r := registerAt(1, rootOn(t, one, 1))
	for n := range len(acts) + 1 {
		x := stepped(t, one, acts[:n]...)
		if n > len(acts)-2 {
			mountsAs(t, "its slot waits, or is sure", x, r, 2, true, files)
			mountsAs(t, "its slot waits, or is sure", x, registerAt(2, root), 2, false, files)
		} else {
			mountsAs(t, "its slot is not there", x, r, 1, false, nil)
			mountsNot(t, "its slot is not there", x, registerAt(2, root), impl.ErrStale)
		}
	}
	two := stepped(t, one, acts...)
	mountsNot(t, "written over", stepped(t, two, write(0, "x")), registerAt(2, root), impl.ErrStale)
	mountsNot(t, "a piece written over", stepped(t, two, write(acts[0].At, "x")), registerAt(2, root), impl.ErrCorrupt)
	mountsAs(t, "tampered with, behind what waits", stepped(t, two, write(0, two.Blocks[0]), tamper(0, "x")), registerAt(2, root), 2, false, files)
	full := two
	full.Cache = slices.Repeat([]impl.Pending{{At: 11, Data: "waits"}}, impl.MaxList)
	mountsAs(t, "a full Cache", full, registerAt(2, root), 2, false, files)
	full.Cache[impl.MaxList-1] = impl.Pending{At: 0, Data: "waits"}
	mountsNot(t, "a full Cache, its last write over the slot", full, registerAt(2, root), impl.ErrStale)
}

func TestP15AnotherKeyMountsNothing(t *testing.T) {
	d := synced(t, formatted(t, 9), imageFiles(100, 1))
	for _, bit := range []int{0, 100, 255} {
		for counter := 1; counter < 5; counter++ {
			noMount(t, "another key", withBit(sealKey, bit), d, registerAt(counter, rootOn(t, d, 0)), impl.ErrCorrupt)
		}
	}
}

// Whatever is done to a disk, it mounts by the document's words.
func TestP15WhateverIsDoneToTheDisk(t *testing.T) {
	seen := map[int]int{}
	for seed := range 40 {
		s := stream(15000 + seed)
		d := formatted(t, 4+seed%9)
		roots := []string{rootOn(t, d, 1)}
		for range 30 {
			acts, root, code := impl.SyncPlan(sealKey, d, someFiles(&s, 90))
			switch n := s.next() % 8; {
			case n < 4 && code == impl.OK:
				d = stepped(t, d, acts...)
				roots = append(roots, root)
			case n < 5 && code == impl.OK:
				d = stepped(t, d, acts[:int(s.next())%len(acts)]...)
			default:
				if x, code := impl.DiskStep(d, someAct(&s, len(d.Blocks))); code == impl.OK {
					d = x
				}
			}
			for i := max(0, len(roots)-3); i < len(roots); i++ {
				for counter := max(1, len(roots)-2); counter <= len(roots)+1; counter++ {
					seen[mountKeepsToRule(t, fmt.Sprint("seed ", seed), d, registerAt(counter, roots[i]))]++
				}
			}
		}
	}
	for _, code := range []int{impl.OK, impl.ErrStale, impl.ErrCorrupt} {
		if seen[code] < 50 {
			t.Errorf("code %d was told only %d times", code, seen[code])
		}
	}
}

// plain does by the document's words what a volume does.
type plain struct {
	disk     *shadow
	register impl.Register
	mounted  bool
	files    []impl.File
}

func newPlain(t *testing.T, blocks int) *plain {
	t.Helper()
	p := &plain{disk: newShadow(blocks)}
	acts, root, _ := syncByRule(t, sealKey, p.disk.disk(), nil)
	for _, a := range acts {
		p.disk.do(a)
	}
	p.register = registerAt(1, root)
	return p
}

func (p *plain) volume() impl.Volume {
	return impl.Volume{Disk: p.disk.disk(), Register: p.register, Mounted: p.mounted, Files: p.files}
}

func (p *plain) does(t *testing.T, a impl.VolumeAct) impl.VolumeReply {
	t.Helper()
	switch {
	case a.Kind < 1 || a.Kind > 7:
		return toldCode(impl.ErrForm)
	case a.Kind == 5:
		return toldCode(p.disk.do(saveAct))
	case (a.Kind == 6 || a.Kind == 7 || a.Kind == 1) && p.mounted:
		return toldCode(impl.ErrTwice)
	case a.Kind == 6:
		return toldCode(p.disk.do(rollbackAct))
	case a.Kind == 7:
		return toldCode(p.disk.do(tamper(a.At, a.Data)))
	case a.Kind == 1:
		return p.mounts(t)
	case !p.mounted:
		return toldCode(impl.ErrAway)
	case a.Kind == 2:
		next, reply, _ := callByRule(p.files, a.Call)
		p.files = next
		return reply
	case a.Kind == 4:
		p.mounted, p.files = false, nil
		return impl.VolumeReply{}
	}
	return p.syncs(t, a)
}

func (p *plain) mounts(t *testing.T) impl.VolumeReply {
	t.Helper()
	m, code := mountByRule(t, sealKey, p.disk.disk(), p.register)
	if code != impl.OK {
		return toldCode(code)
	}
	if m.Pending {
		p.register = registerAt(m.Opened.Epoch, m.Opened.Root)
	}
	p.mounted, p.files = true, m.Opened.Files
	return toldText(linesByRule(p.files))
}

func (p *plain) syncs(t *testing.T, a impl.VolumeAct) impl.VolumeReply {
	t.Helper()
	acts, root, fits := syncByRule(t, sealKey, p.disk.disk(), p.files)
	if !fits {
		return toldCode(impl.ErrFull)
	}
	for i, x := range acts {
		if i+1 == a.Cut {
			p.disk.do(crash(a.Torn, a.Keep...))
			p.mounted, p.files = false, nil
			return toldCode(impl.ErrAway)
		}
		p.disk.do(x)
	}
	if a.Lost {
		p.mounted, p.files = false, nil
	}
	if !a.Lost || a.Reached {
		p.register = registerAt(p.register.Counter+1, root)
	}
	if a.Lost {
		return toldCode(impl.ErrAway)
	}
	return impl.VolumeReply{}
}

func didRun(t *testing.T, why string, blocks int, acts ...impl.VolumeAct) (impl.Volume, []impl.VolumeReply) {
	t.Helper()
	v, replies, code := impl.VolumeRun(sealKey, blocks, acts)
	if code != impl.OK || len(replies) != len(acts) || !impl.DiskOK(v.Disk) || !impl.FilesOK(v.Files) || len(v.Disk.Cache) != 0 {
		t.Fatalf("%s: VolumeRun of %d acts is %.300s, %d replies, %d", why, len(acts), volumeText(v), len(replies), code)
	}
	return v, replies
}

// runKeepsToRule holds a run against the document's words.
func runKeepsToRule(t *testing.T, why string, blocks int, acts ...impl.VolumeAct) (impl.Volume, []impl.VolumeReply) {
	t.Helper()
	v, replies := didRun(t, why, blocks, acts...)
	p := newPlain(t, blocks)
	for i, a := range acts {
		if want := p.does(t, a); replies[i] != want {
			t.Fatalf("%s: act %d of %d, %s, is told %s, not %s", why, i, len(acts), voActText(a), repliesText(replies[i]), repliesText(want))
		}
	}
	if volumeText(v) != volumeText(p.volume()) {
		t.Fatalf("%s: VolumeRun of %d acts is %.900s\nnot %.900s", why, len(acts), volumeText(v), volumeText(p.volume()))
	}
	return v, replies
}

// runTells asks for the replies to the last acts, as many as there are.
func runTells(t *testing.T, why string, acts []impl.VolumeAct, want ...impl.VolumeReply) impl.Volume {
	t.Helper()
	v, replies := runKeepsToRule(t, why, 12, acts...)
	if got := replies[len(acts)-len(want):]; !slices.Equal(got, want) {
		t.Fatalf("%s: the last acts are told %s, not %s", why, repliesText(got...), repliesText(want...))
	}
	return v
}

func TestP16NewVolumes(t *testing.T) {
	for blocks := 4; blocks <= impl.MaxBlocks; blocks++ {
		v, code := impl.NewVolume(sealKey, blocks)
		root, _ := impl.EmptyRoot(sealKey, blocks)
		if code != impl.OK || v.Register != registerAt(1, root) || v.Mounted || len(v.Files) != 0 || diskText(v.Disk) != diskText(formatted(t, blocks)) {
			t.Errorf("NewVolume of %d blocks is %.300s, %d", blocks, volumeText(v), code)
		}
		if volumeText(v) != volumeText(newPlain(t, blocks).volume()) {
			t.Errorf("NewVolume of %d blocks is not as the document says", blocks)
		}
		ran, _ := didRun(t, "nothing", blocks)
		if volumeText(ran) != volumeText(v) {
			t.Errorf("VolumeRun of no acts on %d blocks is %.300s", blocks, volumeText(ran))
		}
		mountsAs(t, "new", v.Disk, v.Register, 1, false, nil)
	}
}

func TestP16RunsWorkedOutByHand(t *testing.T) {
	ok, away, twice, none := impl.VolumeReply{}, toldCode(impl.ErrAway), toldCode(impl.ErrTwice), toldCode(impl.ErrNone)
	made := []impl.VolumeAct{mountsIt, calls(mkdir("d")), writes("d/a", "one"), writes("e", ""), syncsIt}
	v := runTells(t, "made", made, ok, ok, ok, ok, ok)
	if v.Register.Counter != 2 || !v.Mounted || filesText(v.Files) != filesText([]impl.File{dir("d"), file("d/a", "one"), file("e", "")}) || v.Register.Root != newestByRule(t, sealKey, v.Disk.Blocks).Root {
		t.Errorf("behind a sync: %.300s", volumeText(v))
	}
	more := func(acts ...impl.VolumeAct) []impl.VolumeAct { return append(slices.Clone(made), acts...) }
	text := toldText("d/\nd/a one\ne \n")
	v = runTells(t, "unmounted and mounted", more(unmountsIt, mountsIt), ok, text)
	if v.Register.Counter != 2 || !v.Mounted || len(v.Files) != 3 {
		t.Errorf("mounted again: %.300s", volumeText(v))
	}
	runTells(t, "what was not synced is gone", more(writes("e", "two"), calls(remove("d/a")), unmountsIt, mountsIt), ok, ok, ok, text)
	runTells(t, "reads and lists", more(calls(readAt("d/a", 1, 9)), calls(names("")), calls(names("d")), calls(names("e"))), toldText("ne"), toldText("d/ e"), toldText("a"), toldCode(impl.ErrKind))
	v = runTells(t, "unmounted", more(writes("x", "y"), unmountsIt), ok, ok)
	if v.Mounted || len(v.Files) != 0 || v.Register.Counter != 2 {
		t.Errorf("unmounted: %.300s", volumeText(v))
	}
	runTells(t, "while it is Mounted", more(mountsIt, rollsBack, tampers(0, "x"), savesIt), twice, twice, twice, ok)
	runTells(t, "while it is not", more(unmountsIt, unmountsIt, syncsIt, writes("e", "x"), savesIt, rollsBack, tampers(0, "x")), away, away, away, ok, ok, ok)
	runTells(t, "nothing was saved", []impl.VolumeAct{rollsBack, mountsIt, rollsBack}, none, ok, twice)
	runTells(t, "a sync of the same again", more(syncsIt, syncsIt, unmountsIt, mountsIt), ok, ok, ok, text)
	v = runTells(t, "a sync of the same again", more(syncsIt, syncsIt), ok, ok)
	if v.Register.Counter != 4 {
		t.Errorf("the Counter behind three syncs is %d", v.Register.Counter)
	}
	runTells(t, "all goes", more(calls(remove("d/a")), calls(remove("d")), calls(remove("e")), syncsIt, unmountsIt, mountsIt, calls(names(""))), ok, ok, ok)
}

func TestP16SyncsThatAreLost(t *testing.T) {
	ok, away := impl.VolumeReply{}, toldCode(impl.ErrAway)
	one := []impl.VolumeAct{mountsIt, writes("a", "one"), syncsIt, writes("a", "two")}
	with := func(acts ...impl.VolumeAct) []impl.VolumeAct { return append(slices.Clone(one), acts...) }
	for _, reached := range []bool{true, false} {
		counter := map[bool]int{true: 3, false: 2}[reached]
		v := runTells(t, "lost", with(lostSync(reached)), away)
		if v.Register.Counter != counter || v.Mounted || len(v.Files) != 0 || (v.Register.Root == newestByRule(t, sealKey, v.Disk.Blocks).Root) != reached {
			t.Errorf("a sync is lost, Reached %v: %.300s", reached, volumeText(v))
		}
		v = runTells(t, "lost and mounted", with(lostSync(reached), mountsIt), away, toldText("a two\n"))
		if v.Register.Counter != 3 || v.Register.Root != newestByRule(t, sealKey, v.Disk.Blocks).Root {
			t.Errorf("a sync that was lost, Reached %v, is mounted: %.300s", reached, volumeText(v))
		}
		v = runTells(t, "and gone on with", with(lostSync(reached), mountsIt, writes("a", "333"), syncsIt, unmountsIt, mountsIt), ok, ok, ok, toldText("a 333\n"))
		if v.Register.Counter != 4 {
			t.Errorf("the Counter behind a lost sync, Reached %v, and another is %d", reached, v.Register.Counter)
		}
		runTells(t, "lost again and again", with(lostSync(reached), mountsIt, writes("a", "333"), lostSync(!reached), mountsIt, writes("a", "4444"), lostSync(reached), mountsIt), away, toldText("a 4444\n"))
		runTells(t, "acts behind it", with(lostSync(reached), syncsIt, writes("a", "x"), unmountsIt, rollsBack), away, away, away, toldCode(impl.ErrNone))
	}
	v := runTells(t, "Reached without being Lost", with(impl.VolumeAct{Kind: impl.VoSync, Reached: true}), ok)
	if v.Register.Counter != 3 || !v.Mounted {
		t.Errorf("a sync that was answered: %.300s", volumeText(v))
	}
	cut := impl.VolumeAct{Kind: impl.VoSync, Cut: 1, Lost: true, Reached: true}
	v = runTells(t, "cut and Lost", with(cut), away)
	if v.Register.Counter != 2 {
		t.Errorf("a sync that was cut reached the register: %.300s", volumeText(v))
	}
	runTells(t, "cut and Lost", with(cut, mountsIt), away, toldText("a one\n"))
}

func TestP16NumbersOfCuts(t *testing.T) {
	one := []impl.VolumeAct{mountsIt, writes("a", "one"), syncsIt, writes("a", "two")}
	for _, number := range []int{math.MinInt, math.MinInt + 1, -1 << 32, -4, -1, 0, 1, 2, 3, 4, 5, 6, 7, 256 + 1, 1<<32 + 1, math.MaxInt} { // one piece changes: there are four acts
		for _, keep := range [][]bool{nil, {false}, {true}, {true, true}} {
			want, counter, text := impl.VolumeReply{}, 3, "a two\n"
			if number >= 1 && number <= 4 {
				want = toldCode(impl.ErrAway)
				if number < 4 || len(keep) == 0 || !keep[0] {
					counter, text = 2, "a one\n"
				}
			}
			acts := append(slices.Clone(one), cutSync(number, 0, keep...))
			v := runTells(t, fmt.Sprint("Cut ", number), acts, want)
			if v.Mounted != (want.Code == impl.OK) || len(v.Files) != map[bool]int{true: 1}[v.Mounted] {
				t.Errorf("behind Cut %d: %.300s", number, volumeText(v))
			}
			if v.Mounted {
				acts = append(acts, unmountsIt)
			}
			v = runTells(t, fmt.Sprint("Cut ", number), append(acts, mountsIt), toldText(text))
			if v.Register.Counter != counter {
				t.Errorf("the Counter behind Cut %d is %d, not %d", number, v.Register.Counter, counter)
			}
		}
	}
}

// cutEverywhere cuts a sync behind each of its acts, in each way: what was shown before is, or what it would have made. The acts ahead leave a volume Mounted whose files were synced as before.
func cutEverywhere(t *testing.T, why string, blocks int, before []impl.File, ahead ...impl.VolumeAct) {
	t.Helper()
	v, _ := runKeepsToRule(t, why, blocks, ahead...)
	plan, root, fits := syncByRule(t, sealKey, v.Disk, v.Files)
	if !v.Mounted || !fits {
		t.Fatalf("%s: nothing to sync: %.300s", why, volumeText(v))
	}
	shown := map[string]int{}
	for number := 1; number <= len(plan); number++ {
		x := stepped(t, v.Disk, plan[:number-1]...)
		torn := []int{0, 1, 16, 40, 79, 80, -1, math.MaxInt}
		if len(x.Cache) == 1 {
			torn = allCuts(len(x.Cache[0].Data) + 1)
		}
		for _, c := range crashes(min(len(x.Cache), 3), torn) {
			w, replies := didRun(t, why, blocks, append(slices.Clone(ahead), cutSync(number, c.Torn, c.Keep...), mountsIt)...)
			text, r := linesByRule(before), v.Register
			if now := tellsByRule(t, sealKey, stepped(t, x, c).Blocks, (r.Counter+1)%2); now.whole && now.Epoch == r.Counter+1 && number == len(plan) {
				text, r = linesByRule(v.Files), registerAt(r.Counter+1, root)
			}
			shown[text]++
			if got := replies[len(ahead):]; got[0] != toldCode(impl.ErrAway) || got[1] != toldText(text) || w.Register != r || linesByRule(w.Files) != text {
				t.Fatalf("%s: cut ahead of act %d of %d, %s, it is told %s, not %.300q, and has %.300s", why, number, len(plan), actText(c), repliesText(got...), text, volumeText(w))
			}
		}
	}
	if shown[linesByRule(before)] < 50 || shown[linesByRule(v.Files)] < 5 {
		t.Errorf("%s: power cuts show what was before %d times, what is new %d times", why, shown[linesByRule(before)], shown[linesByRule(v.Files)])
	}
}

func TestP16SyncsThatAreCutEverywhere(t *testing.T) {
	long := strings.Repeat("x", 100)
	cutEverywhere(t, "the first files", 6, nil, mountsIt, writes("a", "one"))
	cutEverywhere(t, "a new piece beside another", 6, []impl.File{file("a", "one")}, mountsIt, writes("a", "one"), syncsIt, writes("a", long[:60]))
	cutEverywhere(t, "two pieces", 8, []impl.File{file("a", long)}, mountsIt, writes("a", long), syncsIt, writes("a", "y"), calls(writeAt("a", 90, "y")))
	cutEverywhere(t, "one of two pieces", 8, []impl.File{file("a", long)}, mountsIt, writes("a", long), syncsIt, calls(writeAt("a", 90, "y")))
	cutEverywhere(t, "all goes", 8, []impl.File{file("a", long)}, mountsIt, writes("a", long), syncsIt, calls(remove("a")))
	cutEverywhere(t, "behind a sync that was lost", 8, []impl.File{file("a", "two")}, mountsIt, writes("a", "one"), syncsIt, writes("a", "two"), lostSync(false), mountsIt, writes("a", "333"))
	cutEverywhere(t, "behind one that was cut", 8, []impl.File{file("a", "one")}, mountsIt, writes("a", "one"), syncsIt, writes("a", "two"), cutSync(4, 30), mountsIt, writes("a", "333"))
	cutEverywhere(t, "behind a roll-back", 8, []impl.File{file("a", "one")}, mountsIt, writes("a", "one"), syncsIt, savesIt, writes("a", "two"), lostSync(false), rollsBack, mountsIt, writes("a", "333"))
}

// Saved behind so many syncs, and rolled back behind so many more: with one or more it is stale, and shows nothing.
func TestP16DisksThatAreRolledBack(t *testing.T) {
	for early := range 5 {
		for late := range 6 {
			acts, text := []impl.VolumeAct{mountsIt}, ""
			sync := func(i int) {
				data := strings.Repeat(string([]byte{byte('a' + i)}), 10+20*i)
				acts, text = append(acts, writes("f", data), syncsIt), "f "+data+"\n"
			}
			for i := range early {
				sync(i)
			}
			acts = append(acts, writes("unsynced", "x"), savesIt)
			if late == 0 {
				acts = append(acts, unmountsIt, rollsBack, mountsIt)
				v := runTells(t, "rolled back to what it is", acts, toldText(text))
				if v.Register.Counter != early+1 {
					t.Errorf("the Counter is %d", v.Register.Counter)
				}
				continue
			}
			acts = append(acts, calls(remove("unsynced")))
			for i := range late {
				sync(early + i)
			}
			saved := append(acts, unmountsIt, rollsBack, mountsIt, mountsIt)
			v := runTells(t, "rolled back", saved, toldCode(impl.ErrStale), toldCode(impl.ErrStale))
			if v.Mounted || len(v.Files) != 0 || v.Register.Counter != early+late+1 {
				t.Errorf("a stale volume is %.300s", volumeText(v))
			}
			again := append(slices.Clone(acts), unmountsIt, mountsIt, savesIt, unmountsIt, rollsBack, mountsIt)
			runTells(t, "saved anew", again, toldText(text))
		}
	}
}

// Roll-backs around syncs that were not answered: the register alone tells which of them may be shown.
func TestP16RollbacksAndSyncsThatWereNotAnswered(t *testing.T) {
	one, two := toldText("a one\n"), toldText("a two\n")
	ok, away, stale := impl.VolumeReply{}, toldCode(impl.ErrAway), toldCode(impl.ErrStale)
	start := []impl.VolumeAct{mountsIt, writes("a", "one"), syncsIt}
	with := func(acts ...impl.VolumeAct) []impl.VolumeAct { return append(slices.Clone(start), acts...) }
	runTells(t, "rolled back ahead of what did not reach the register", with(savesIt, writes("a", "two"), lostSync(false), rollsBack, mountsIt), away, ok, one)
	runTells(t, "rolled back ahead of what reached the register", with(savesIt, writes("a", "two"), lostSync(true), rollsBack, mountsIt), away, ok, stale)
	runTells(t, "rolled back behind its mount", with(savesIt, writes("a", "two"), lostSync(false), mountsIt, unmountsIt, rollsBack, mountsIt), two, ok, ok, stale)
	runTells(t, "saved behind it", with(writes("a", "two"), lostSync(false), savesIt, rollsBack, mountsIt, unmountsIt, rollsBack, mountsIt), two, ok, ok, two)
	runTells(t, "saved behind it, and gone on", with(writes("a", "two"), lostSync(false), savesIt, mountsIt, writes("a", "333"), syncsIt, unmountsIt, rollsBack, mountsIt), ok, ok, ok, stale)
	runTells(t, "saved behind it, gone on and lost", with(writes("a", "two"), lostSync(false), savesIt, mountsIt, writes("a", "333"), lostSync(false), rollsBack, mountsIt), away, ok, two)
	runTells(t, "another in its place", with(writes("a", "two"), lostSync(false), savesIt, tampers(1, "gone"), mountsIt, writes("a", "333"), syncsIt, unmountsIt, rollsBack, mountsIt), one, ok, ok, ok, ok, stale)
	runTells(t, "another in its place, lost", with(writes("a", "two"), lostSync(false), savesIt, tampers(1, "gone"), mountsIt, writes("a", "333"), lostSync(false), rollsBack, mountsIt), one, ok, away, ok, two)
	runTells(t, "cut, and rolled back ahead of it", with(savesIt, writes("a", "two"), cutSync(4, 0, true), rollsBack, mountsIt), away, ok, one)
	runTells(t, "cut, and rolled back to it", with(writes("a", "two"), cutSync(4, 0, true), savesIt, rollsBack, mountsIt), away, ok, ok, two)
	runTells(t, "rolled back again and again", with(savesIt, writes("a", "two"), lostSync(false), rollsBack, mountsIt, writes("a", "333"), lostSync(false), mountsIt), away, toldText("a 333\n"))
	v := runTells(t, "stale, but the disk is there again", with(savesIt, writes("a", "two"), syncsIt, unmountsIt, rollsBack, mountsIt, savesIt), stale, ok)
	if v.Register.Counter != 3 || v.Mounted {
		t.Errorf("a stale volume is %.300s", volumeText(v))
	}
}

func TestP16VolumesThatWereTamperedWith(t *testing.T) {
	stale, corrupt, ok := toldCode(impl.ErrStale), toldCode(impl.ErrCorrupt), impl.VolumeReply{}
	start := []impl.VolumeAct{mountsIt, writes("a", "one"), syncsIt, unmountsIt} // Epoch 2 in block 0, its piece in block 3; Epoch 1 in block 1
	with := func(acts ...impl.VolumeAct) []impl.VolumeAct { return append(slices.Clone(start), acts...) }
	v, _ := didRun(t, "start", 12, start...)
	runTells(t, "its slot", with(tampers(0, "bad"), mountsIt), ok, stale)
	runTells(t, "both slots", with(tampers(0, "bad"), tampers(1, "bad"), mountsIt), ok, ok, corrupt)
	runTells(t, "the elder slot", with(tampers(1, "bad"), mountsIt), ok, toldText("a one\n"))
	runTells(t, "its piece", with(tampers(3, "bad"), mountsIt), ok, corrupt)
	runTells(t, "the elder one's piece", with(tampers(2, "bad"), mountsIt), ok, toldText("a one\n"))
	runTells(t, "its piece, and put back", with(tampers(3, "bad"), mountsIt, tampers(3, v.Disk.Blocks[3]), mountsIt), ok, corrupt, ok, toldText("a one\n"))
	runTells(t, "its slot at the other place", with(tampers(1, v.Disk.Blocks[0]), tampers(0, ""), mountsIt), ok, ok, corrupt)
	for bit := range 8 * len(v.Disk.Blocks[0]) {
		if bit%31 == 0 {
			runTells(t, "a bit of its slot", with(tampers(0, withBit(v.Disk.Blocks[0], bit)), mountsIt), ok, stale)
		}
	}
	for bit := range 8 * len(v.Disk.Blocks[3]) {
		if bit%31 == 0 {
			runTells(t, "a bit of its piece", with(tampers(3, withBit(v.Disk.Blocks[3], bit)), mountsIt), ok, corrupt)
		}
	}
	runTells(t, "saved and tampered with", with(savesIt, tampers(3, "bad"), mountsIt, rollsBack, mountsIt), ok, ok, corrupt, ok, toldText("a one\n"))
	planted := laidOut(1, 3, 3, 5, []impl.File{file("b", "planted")}).on(t, v.Disk)
	runTells(t, "a whole slot by the key", with(tampers(5, planted.Blocks[5]), tampers(1, planted.Blocks[1]), mountsIt), ok, ok, toldText("b planted\n"))
}

func TestP16WithoutRoom(t *testing.T) {
	full, ok := toldCode(impl.ErrFull), impl.VolumeReply{}
	big := []impl.VolumeAct{mountsIt, writes("a", "one"), syncsIt}
	for _, p := range []string{"b", "c", "d", "e", "f"} {
		big = append(big, writes(p, longText[:200]))
	}
	for _, s := range []impl.VolumeAct{syncsIt, lostSync(true), lostSync(false), cutSync(1, 0), cutSync(4, 0)} {
		v, replies := runKeepsToRule(t, "too many bytes", 60, append(slices.Clone(big), s)...)
		if replies[len(big)] != full || v.Register.Counter != 2 || !v.Mounted || len(v.Files) != 6 {
			t.Errorf("a sync without room is %s: %.300s", repliesText(replies[len(big)]), volumeText(v))
		}
	}
	small := []impl.VolumeAct{mountsIt, writes("a", longText[:100]), syncsIt, calls(cut("a", 30)), syncsIt, unmountsIt, mountsIt}
	_, replies := runKeepsToRule(t, "too few blocks", 4, small...)
	if want := []impl.VolumeReply{full, ok, ok, ok, toldText("a " + longText[:30] + "\n")}; !slices.Equal(replies[2:], want) {
		t.Errorf("too few blocks: %s", repliesText(replies...))
	}
}

// showsWhatWasSynced is the law itself: a walk along acts and what they were told, with what may be shown.
func showsWhatWasSynced(t *testing.T, why string, acts []impl.VolumeAct, replies []impl.VolumeReply) {
	t.Helper()
	var files, answered []impl.File
	var unanswered [][]impl.File
	mounted := false
	for i, a := range acts {
		r := replies[i]
		switch {
		case a.Kind == impl.VoMount && r.Code == impl.OK:
			at := slices.IndexFunc(append([][]impl.File{answered}, unanswered...), func(list []impl.File) bool { return linesByRule(list) == r.Text })
			if at < 0 {
				t.Fatalf("%s: act %d shows %.300q, neither %.300q nor one of %d syncs that were not answered", why, i, r.Text, linesByRule(answered), len(unanswered))
			}
			if at > 0 {
				answered = unanswered[at-1] // what a mount has shown is not taken back
				unanswered = nil
			}
			files, mounted = answered, true
		case a.Kind == impl.VoMount && r.Text != "":
			t.Fatalf("%s: act %d, %d, shows %.300q", why, i, r.Code, r.Text)
		case a.Kind == impl.VoCall && r.Code == impl.OK:
			files, _, _ = callByRule(files, a.Call)
		case a.Kind == impl.VoSync && r.Code == impl.OK:
			answered, unanswered = files, nil
		case a.Kind == impl.VoUnmount:
			mounted = false
		case a.Kind == impl.VoSync && r.Code == impl.ErrAway && mounted:
			unanswered, mounted = append(unanswered, files), false
		}
	}
}

// lawfulCall draws data without ends of line, so that the text of files tells them apart.
func lawfulCall(s *stream, p *plain) impl.VolumeAct {
	a := someFileAct(s, p.files)
	letters := []byte(a.data)
	for i := range letters {
		letters[i] = 'a' + letters[i]%26
	}
	a.data = string(letters[:min(len(letters), 70)])
	return calls(a)
}

func someSync(s *stream) impl.VolumeAct {
	a := syncsIt
	switch s.next() % 8 {
	case 0, 1:
		a.Lost, a.Reached = true, s.next() < 128
	case 2, 3, 4:
		a.Cut, a.Torn = int(s.next())%8, int(s.next())-20
		for range int(s.next()) % 5 {
			a.Keep = append(a.Keep, s.next() < 150)
		}
		a.Lost, a.Reached = s.next() < 60, s.next() < 60
	}
	return a
}

// someVolumeAct draws acts of all kinds; mounts of what is not Mounted, and calls and syncs of what is, more often.
func someVolumeAct(s *stream, p *plain, rolls bool) impl.VolumeAct {
	n := s.next() % 16
	switch {
	case n < 6 && !p.mounted:
		return mountsIt
	case n < 6:
		return lawfulCall(s, p)
	case n < 10 && p.mounted:
		return someSync(s)
	case n < 12:
		return savesIt
	case n < 14 && rolls:
		return []impl.VolumeAct{rollsBack, unmountsIt}[s.next()%2]
	}
	return []impl.VolumeAct{mountsIt, syncsIt, unmountsIt, savesIt, {Kind: 8}, {}, lawfulCall(s, p), someSync(s)}[s.next()%8]
}

func someRun(t *testing.T, s *stream, blocks, size int, draw func(s *stream, p *plain) impl.VolumeAct) []impl.VolumeAct {
	t.Helper()
	p := newPlain(t, blocks)
	var acts []impl.VolumeAct
	for range size {
		a := draw(s, p)
		p.does(t, a)
		acts = append(acts, a)
	}
	return acts
}

func TestP16WhateverPowerCutsAndRollbacksThereAre(t *testing.T) {
	seen := map[string]int{}
	for seed := range 150 {
		s, blocks := stream(16000+seed), []int{4, 5, 6, 8, 12, 20, 64}[seed%7]
		acts := someRun(t, &s, blocks, 120, func(s *stream, p *plain) impl.VolumeAct { return someVolumeAct(s, p, true) })
		why := fmt.Sprint("seed ", seed)
		v, replies := runKeepsToRule(t, why, blocks, acts...)
		showsWhatWasSynced(t, why, acts, replies)
		if v.Register.Counter > 121 {
			t.Errorf("%s: the Counter is %d", why, v.Register.Counter)
		}
		for i, a := range acts {
			seen[fmt.Sprint(a.Kind, " ", impl.CodeWord(replies[i].Code))]++
		}
	}
	for _, word := range []string{"1 ok", "1 twice", "1 stale", "2 ok", "2 away", "2 path", "2 none", "3 ok", "3 away", "3 full", "4 ok", "4 away", "5 ok", "6 ok", "6 twice", "6 none", "8 form", "0 form"} {
		if seen[word] < 10 {
			t.Errorf("%s was told only %d times", word, seen[word])
		}
	}
}

// Without roll-backs no power cut takes a volume away: each mount of what is not Mounted succeeds.
func TestP16PowerCutsAloneLeaveItMountable(t *testing.T) {
	shown := 0
	for seed := range 60 {
		s, blocks := stream(17000+seed), []int{4, 5, 6, 8, 12, 20, 64}[seed%7]
		acts := someRun(t, &s, blocks, 100, func(s *stream, p *plain) impl.VolumeAct { return someVolumeAct(s, p, false) })
		_, replies := didRun(t, "power cuts", blocks, acts...)
		showsWhatWasSynced(t, fmt.Sprint("seed ", seed), acts, replies)
		for i, a := range acts {
			if a.Kind != impl.VoMount {
				continue
			}
			if replies[i].Code != impl.OK && replies[i].Code != impl.ErrTwice {
				t.Fatalf("seed %d: act %d, a mount behind power cuts, is %d", seed, i, replies[i].Code)
			}
			shown++
		}
	}
	if shown < 500 {
		t.Errorf("only %d mounts", shown)
	}
}

// Whoever has all that ever stood on the disk, but not the key, may put it back block by block: a mount shows nothing else for that.
func TestP16BlocksThatArePutBack(t *testing.T) {
	mounted := 0
	for seed := range 60 {
		s, blocks := stream(18000+seed), []int{5, 6, 8, 12}[seed%4]
		ever := make([][]string, blocks)
		acts := someRun(t, &s, blocks, 110, func(s *stream, p *plain) impl.VolumeAct {
			for at, b := range p.disk.disk().Blocks {
				if !slices.Contains(ever[at], b) {
					ever[at] = append(ever[at], b)
				}
			}
			if at := int(s.next()) % blocks; s.next() < 90 && !p.mounted {
				return tampers(at, ever[at][int(s.next())%len(ever[at])])
			}
			return someVolumeAct(s, p, true)
		})
		_, replies := runKeepsToRule(t, fmt.Sprint("seed ", seed), blocks, acts...)
		showsWhatWasSynced(t, fmt.Sprint("seed ", seed), acts, replies)
		for i, a := range acts {
			if a.Kind == impl.VoMount && replies[i].Code == impl.OK {
				mounted++
			}
		}
	}
	if mounted < 100 {
		t.Errorf("only %d mounts", mounted)
	}
}

// Registers of runs go up by one at a time, and only by syncs that were answered or reached them, or that a mount found.
func TestP16TheRegisterOfARun(t *testing.T) {
	for seed := range 12 {
		s := stream(19000 + seed)
		acts := someRun(t, &s, 8, 60, func(s *stream, p *plain) impl.VolumeAct { return someVolumeAct(s, p, true) })
		was, whole := impl.Volume{}, []impl.VolumeReply(nil)
		_, whole = didRun(t, "whole", 8, acts...)
		for n := range len(acts) + 1 {
			v, replies := didRun(t, "a beginning", 8, acts[:n]...)
			if !slices.Equal(replies, whole[:n]) {
				t.Fatalf("seed %d: what the first %d acts are told hangs on later ones", seed, n)
			}
			if n > 0 {
				a, code := acts[n-1], replies[n-1].Code
				raises := v.Register.Counter == was.Register.Counter+1
				if !raises && v.Register != was.Register || raises && a.Kind != impl.VoSync && a.Kind != impl.VoMount || a.Kind == impl.VoSync && code == impl.OK && !raises {
					t.Fatalf("seed %d: %s, %d, makes %d of Counter %d", seed, voActText(a), code, v.Register.Counter, was.Register.Counter)
				}
				if v.Mounted && v.Register.Root != newestByRule(t, sealKey, v.Disk.Blocks).Root || v.Register.Volume != 0 {
					t.Fatalf("seed %d: behind %d acts the register tells another Root than is mounted", seed, n)
				}
			}
			was = v
		}
	}
}

// Files are called as they are by their own functions: against a plain map from paths to bytes.
func TestP16CallsAgainstAPlainMap(t *testing.T) {
	seen := map[string]int{}
	for seed := range 60 {
		s := stream(20000 + seed)
		var list []impl.File
		for range 200 {
			c := callOf(someFileAct(&s, list))
			next, reply := callKeepsToRule(t, fmt.Sprint("seed ", seed), list, c)
			list = next
			seen[fmt.Sprint(c.Kind, " ", impl.CodeWord(reply.Code))]++
			if len(list) == mostFiles && s.next() < 40 {
				list = nil
			}
		}
	}
	for _, word := range []string{"1 ok", "1 twice", "1 full", "2 ok", "2 kind", "2 range", "3 ok", "3 none", "4 ok", "4 range", "5 ok", "5 order", "5 twice", "6 ok", "6 order", "7 ok", "7 kind", "7 path"} {
		if seen[word] < 5 {
			t.Errorf("%s was told only %d times", word, seen[word])
		}
	}
}

func TestP16CallsWorkedOutByHand(t *testing.T) {
	list := []impl.File{dir("d"), dir("d/e"), file("d/f", "data"), file("g", "")}
	for _, c := range []struct {
		a    fileAct
		want impl.VolumeReply
		next []impl.File
	}{
		{mkdir("x"), toldText(""), []impl.File{dir("d"), dir("d/e"), file("d/f", "data"), file("g", ""), dir("x")}},
		{writeAt("g", 2, "ab"), toldText(""), []impl.File{dir("d"), dir("d/e"), file("d/f", "data"), file("g", "\x00\x00ab")}},
		{readAt("d/f", 1, 2), toldText("at"), list},
		{readAt("d/f", 4, 2), toldText(""), list},
		{cut("d/f", 1), toldText(""), []impl.File{dir("d"), dir("d/e"), file("d/f", "d"), file("g", "")}},
		{move("d", "a"), toldText(""), []impl.File{dir("a"), dir("a/e"), file("a/f", "data"), file("g", "")}},
		{remove("d/e"), toldText(""), []impl.File{dir("d"), file("d/f", "data"), file("g", "")}},
		{names(""), toldText("d/ g"), list},
		{names("d"), toldText("e/ f"), list},
		{names("d/e"), toldText(""), list},
		{mkdir("d"), toldCode(impl.ErrTwice), list},
		{writeAt("d", 0, "x"), toldCode(impl.ErrKind), list},
		{readAt("d", 0, 1), toldCode(impl.ErrKind), list},
		{cut("x", 1), toldCode(impl.ErrNone), list},
		{move("d", "d/e/x"), toldCode(impl.ErrOrder), list},
		{remove("d"), toldCode(impl.ErrOrder), list},
		{names("g"), toldCode(impl.ErrKind), list},
		{move("d", longText[:39]), toldCode(impl.ErrPath), list}, // a path of one below it would be too long
	} {
		next, reply, code := impl.CallFiles(list, callOf(c.a))
		if filesText(next) != filesText(c.next) || reply != c.want || code != impl.OK {
			t.Errorf("CallFiles of %v is %s, %s, %d, not %s, %s", c.a, filesText(next), repliesText(reply), code, filesText(c.next), repliesText(c.want))
		}
	}
	for _, list := range [][]impl.File{nil, {}} {
		if next, reply, code := impl.CallFiles(list, impl.FileCall{Kind: impl.FcList}); len(next) != 0 || reply != (impl.VolumeReply{}) || code != impl.OK {
			t.Errorf("a list of no files is %s, %s, %d", filesText(next), repliesText(reply), code)
		}
	}
}

func TestP16TextsOfFiles(t *testing.T) {
	for _, c := range []struct {
		list []impl.File
		want string
	}{
		{nil, ""}, {[]impl.File{}, ""}, {[]impl.File{dir("a")}, "a/\n"}, {[]impl.File{file("a", "")}, "a \n"}, {[]impl.File{file("a", "x")}, "a x\n"},
		{[]impl.File{dir("d"), dir("d/e"), file("d/f", "text"), file("g", "")}, "d/\nd/e/\nd/f text\ng \n"},
		{[]impl.File{file("a", "\n"), file("b", "x\ny\n"), file("c", " ")}, "a \n\nb x\ny\n\nc  \n"},
		{[]impl.File{file("a", "\x00\xff/ \n")}, "a \x00\xff/ \n\n"},
	} {
		if got, code := impl.FilesText(c.list); got != c.want || code != impl.OK || linesByRule(c.list) != c.want {
			t.Errorf("FilesText of %s is %q, %d, not %q", filesText(c.list), got, code, c.want)
		}
	}
	for _, list := range rightFiles() {
		if got, code := impl.FilesText(list); got != linesByRule(list) || code != impl.OK {
			t.Errorf("FilesText of %s is %q, %d", filesText(list), got, code)
		}
	}
	lines := []impl.VolumeAct{mountsIt, writes("a", "x\ny /\n"), writes("b", ""), syncsIt, unmountsIt, mountsIt}
	runTells(t, "ends of line in Data", lines, toldText("a x\ny /\n\nb \n"))
}
