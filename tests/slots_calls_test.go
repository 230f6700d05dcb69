package tests

import (
	"bytes"
	"fmt"
	"math"
	"slices"
	"strings"
	"testing"

	"loop.example/g00257/impl"
)

var (
	// noEpochs hold numbers that are no Epoch, the nearest and the farthest ones, and such as would be right if they were cut.
	noEpochs = []int{0, -1, lastEpoch + 1, lastEpoch + 2, -2, -lastEpoch, -lastEpoch - 1, 1<<33 + 1, 1 << 40, math.MinInt, math.MinInt + 1, math.MaxInt - 1, math.MaxInt}

	noSlotPlaces = []int{-1, 2, -2, 3, 255, 256, 1 << 32, 1<<32 + 1, -1 << 32, math.MinInt, math.MinInt + 1, math.MaxInt - 1, math.MaxInt}
)

// wrongSlots have one fault each, but for the last one.
func wrongSlots() []impl.Slot {
	var out []impl.Slot
	for _, epoch := range noEpochs {
		out = append(out, impl.Slot{Epoch: epoch}, impl.Slot{Epoch: epoch, Data: "data"})
	}
	for _, size := range []int{171, 172, 200, 256, 256 + 1, impl.MaxText, impl.MaxText + 1} {
		out = append(out, impl.Slot{Epoch: 1, Data: longText[:size]}, impl.Slot{Epoch: lastEpoch, Data: longText[:size]})
	}
	return append(out, impl.Slot{Epoch: 0, Data: longText})
}

func noSlotBytes(t *testing.T, why, key string, place int, s impl.Slot, want int) {
	t.Helper()
	if b, code := impl.SlotBytes(key, place, s); len(b) != 0 || code != want {
		t.Errorf("%s: SlotBytes of %d bytes, %d, Epoch %d and %d bytes is %d bytes, %d, not %d", why, len(key), place, s.Epoch, len(s.Data), len(b), code, want)
	}
}

func noSlotRead(t *testing.T, why, key string, place int, b []byte, want int) {
	t.Helper()
	if s, code := impl.ReadSlot(key, place, b); s != (impl.Slot{}) || code != want {
		t.Errorf("%s: ReadSlot of %d bytes, %d, %d bytes is %d, %q, %d, not %d", why, len(key), place, len(b), s.Epoch, s.Data, code, want)
	}
}

func opensNothing(t *testing.T, why, key string, d impl.Disk, want int) {
	t.Helper()
	if s, code := impl.OpenSlots(key, d); s != (impl.Slot{}) || code != want {
		t.Errorf("%s: OpenSlots by %d bytes of %.200s is %d, %q, %d, not %d", why, len(key), diskText(d), s.Epoch, s.Data, code, want)
	}
}

// savesNothing asks for one code of a plan and of a save, and nothing beside it.
func savesNothing(t *testing.T, why, key string, d impl.Disk, data string, want int) {
	t.Helper()
	if acts, code := impl.SlotPlan(key, d, data); len(acts) != 0 || code != want {
		t.Errorf("%s: SlotPlan by %d bytes of %.200s and %d bytes is %d acts, %d, not %d", why, len(key), diskText(d), len(data), len(acts), code, want)
	}
	if x, code := impl.SaveSlot(key, d, data); diskText(x) != diskText(impl.Disk{}) || code != want {
		t.Errorf("%s: SaveSlot by %d bytes of %.200s and %d bytes is %.200s, %d, not %d", why, len(key), diskText(d), len(data), diskText(x), code, want)
	}
}

// slotDisks are right ones of 2 blocks at least, without slots, with one, with two, and with the last one.
func slotDisks(t *testing.T) []impl.Disk {
	t.Helper()
	return []impl.Disk{ran(t, 2), ran(t, 64), smallDisk(t), fullDisk(t), slotDisk(t, 0, 1), slotDisk(t, 4, 5), slotDisk(t, lastEpoch, 3), slotDisk(t, 0, lastEpoch)}
}

// oneBlockDisks are right, and too small.
func oneBlockDisks(t *testing.T) []impl.Disk {
	t.Helper()
	return []impl.Disk{ran(t, 1), ran(t, 1, saveAct), ran(t, 1, write(0, slotBytes(t, 0, 2, "data"))), ran(t, 1, write(0, slotBytes(t, 0, 2, "data")), syncAct)}
}

func TestP1RightSlots(t *testing.T) {
	if impl.MaxSlot != 170 {
		t.Error("MaxSlot is", impl.MaxSlot)
	}
	for _, epoch := range epochEdges {
		for size := range impl.MaxSlot + 1 {
			if !impl.SlotOK(impl.Slot{Epoch: epoch, Data: longText[:size]}) {
				t.Errorf("SlotOK of Epoch %d and %d bytes is false", epoch, size)
			}
		}
	}
	for _, s := range wrongSlots() {
		if impl.SlotOK(s) {
			t.Errorf("SlotOK of Epoch %d and %d bytes is true", s.Epoch, len(s.Data))
		}
	}
}

func TestP1SlotsThatHaveNoBytes(t *testing.T) {
	right := impl.Slot{Epoch: 1, Data: "data"}
	for _, s := range append(wrongSlots(), right) {
		for _, place := range append([]int{0, 1}, noSlotPlaces...) {
			for _, key := range append(noSealKeys(), sealKey) {
				switch {
				case len(key) != 32 || s != right:
					noSlotBytes(t, "wrong", key, place, s, impl.ErrBad)
				case place < 0 || place > 1:
					noSlotBytes(t, "no place", key, place, s, impl.ErrRange)
				}
			}
			noSlotBytes(t, "long", longText, place, s, impl.ErrLong)
			noSlotBytes(t, "long", longText+longText, place, s, impl.ErrLong)
		}
	}
}

func TestP1BytesThatAreNotReadAsASlot(t *testing.T) {
	for place := range 2 {
		right := []byte(slotBytes(t, place, 3, "data"))
		for _, b := range [][]byte{right, nil, {}, []byte("x"), right[:3], longBytes[:impl.MaxText]} {
			for _, key := range noSealKeys() {
				noSlotRead(t, "no key", key, place, b, impl.ErrBad)
				noSlotRead(t, "no key, no place", key, 2, b, impl.ErrBad)
			}
			for _, wrong := range noSlotPlaces {
				noSlotRead(t, "no place", sealKey, wrong, b, impl.ErrRange)
			}
			noSlotRead(t, "a long key", longText, place, b, impl.ErrLong)
			noSlotRead(t, "a long key, no place", longText, -1, b, impl.ErrLong)
		}
		for n := range len(right) {
			noSlotRead(t, "short", sealKey, place, right[:n], impl.ErrSealed)
		}
		noSlotRead(t, "the longest", sealKey, place, longBytes[:impl.MaxText], impl.ErrSealed)
		for _, key := range []string{sealKey, "", longText[:31], longText[:33], longText} {
			for _, at := range []int{place, -1, 2, math.MaxInt} {
				noSlotRead(t, "long bytes", key, at, longBytes, impl.ErrLong)
				noSlotRead(t, "long bytes", key, at, slices.Concat(right, longBytes), impl.ErrLong)
			}
		}
	}
}

func TestP1KeysThatOpenNoSlots(t *testing.T) {
	disks := slices.Concat(slotDisks(t), oneBlockDisks(t), []impl.Disk{{}, withBlock(smallDisk(t), 0, longBlock)})
	for _, d := range disks {
		for _, key := range []string{"", longText[:16], longText[:31], longText[:33], longText[:64], longText[:impl.MaxText]} {
			opensNothing(t, "no key", key, d, impl.ErrBad)
			for _, data := range []string{"", "data", longText[:171], longText[:impl.MaxText]} {
				savesNothing(t, "no key", key, d, data, impl.ErrBad)
			}
			savesNothing(t, "no key, and long", key, d, longText, impl.ErrLong)
		}
		opensNothing(t, "a long key", longText, d, impl.ErrLong)
		for _, data := range []string{"", "data", longText[:171], longText} {
			savesNothing(t, "a long key", longText, d, data, impl.ErrLong)
		}
	}
	for _, key := range noSealKeys() {
		opensNothing(t, "no key", key, slotDisk(t, 4, 5), impl.ErrBad)
		savesNothing(t, "no key", key, slotDisk(t, 4, 5), "data", impl.ErrBad)
	}
}

func TestP1DisksThatHaveNoSlots(t *testing.T) {
	for _, d := range wrongDisks(t) {
		opensNothing(t, "not right", sealKey, d, impl.ErrBad)
		savesNothing(t, "not right", sealKey, d, "data", impl.ErrBad)
		savesNothing(t, "not right, and no room", sealKey, d, longText[:171], impl.ErrBad)
		savesNothing(t, "not right, and long", sealKey, d, longText, impl.ErrLong)
	}
	for _, d := range oneBlockDisks(t) {
		opensNothing(t, "one block", sealKey, d, impl.ErrRange)
		savesNothing(t, "one block", sealKey, d, "data", impl.ErrRange)
		savesNothing(t, "one block, and no room", sealKey, d, longText[:171], impl.ErrRange)
		savesNothing(t, "one block, and long", sealKey, d, longText, impl.ErrLong)
	}
	one := ran(t, 1)
	one.Blocks[0] = longBlock
	opensNothing(t, "one block, not right", sealKey, one, impl.ErrBad)
	savesNothing(t, "one block, not right", sealKey, one, "data", impl.ErrBad)
}

func TestP1DataThatHaveNoRoom(t *testing.T) {
	for _, d := range slotDisks(t) {
		for _, size := range []int{171, 172, 200, 201, 256, 1000, impl.MaxText - 1, impl.MaxText} {
			savesNothing(t, "no room", sealKey, d, longText[:size], impl.ErrFull)
		}
		savesNothing(t, "long", sealKey, d, longText, impl.ErrLong)
		savesNothing(t, "long", sealKey, d, longText+longText, impl.ErrLong)
	}
	for _, d := range []impl.Disk{slotDisk(t, lastEpoch, 0), slotDisk(t, 0, lastEpoch), slotDisk(t, lastEpoch, lastEpoch), slotDisk(t, lastEpoch, lastEpoch-1), slotDisk(t, 1, lastEpoch),
		stepped(t, slotDisk(t, 4, 5), write(1, slotBytes(t, 1, lastEpoch, "waits")))} {
		for _, data := range []string{"", "data", longText[:170], longText[:171]} {
			savesNothing(t, "no next Epoch", sealKey, d, data, impl.ErrFull)
		}
		if s, code := impl.OpenSlots(sealKey, d); s.Epoch != lastEpoch || code != impl.OK {
			t.Errorf("OpenSlots is %d, %q, %d", s.Epoch, s.Data, code)
		}
	}
	gone := stepped(t, slotDisk(t, lastEpoch, 5), write(0, "gone"))
	plansByRule(t, "the last Epoch is written over", gone, 6, "data")
}

func TestP1ADiskWithoutSlots(t *testing.T) {
	for _, d := range rightDisks(t) {
		want := impl.ErrNone
		if len(d.Blocks) == 1 {
			want = impl.ErrRange
		}
		opensNothing(t, "no slots", sealKey, d, want)
	}
	bare := impl.Disk{Blocks: []string{"", ""}}
	empty := impl.Disk{Blocks: []string{"", ""}, Cache: []impl.Pending{}, Saved: []string{}}
	x, code := impl.SaveSlot(sealKey, bare, "")
	y, codeY := impl.SaveSlot(sealKey, empty, "")
	if diskText(x) != diskText(y) || code != impl.OK || codeY != impl.OK {
		t.Errorf("SaveSlot of a disk without lists is %s, %d, and of one with empty ones %s, %d", diskText(x), code, diskText(y), codeY)
	}
}

func TestP1BytesOfSlotsStayAsTheyWere(t *testing.T) {
	for place := range 2 {
		right := slotBytes(t, place, 3, "data of a slot")
		for _, size := range []int{0, 3, 4, 19, 20, len(right) - 1, len(right)} {
			whole := []byte(right + "behind its end")
			was := bytes.Clone(whole)
			s, code := impl.ReadSlot(sealKey, place, whole[:size])
			if !bytes.Equal(whole, was) {
				t.Fatalf("ReadSlot of %d bytes changes them, %d", size, code)
			}
			clear(whole)
			if size == len(right) && (s.Data != "data of a slot" || code != impl.OK) {
				t.Fatalf("what ReadSlot answers is its argument's memory: %q, %d", s.Data, code)
			}
		}
	}
	x, _ := impl.SlotBytes(sealKey, 1, impl.Slot{Epoch: 3, Data: "data"})
	y, _ := impl.SlotBytes(sealKey, 1, impl.Slot{Epoch: 3, Data: "data"})
	clear(x[:cap(x)])
	if string(y) != slotBytes(t, 1, 3, "data") {
		t.Error("an answer of SlotBytes is another's memory")
	}
}

func TestP1DisksOfSlotsStayAsTheyWere(t *testing.T) {
	starts := append(slotDisks(t), stepped(t, slotDisk(t, 4, 5), saveAct, write(0, slotBytes(t, 0, 6, "six")), write(1, "x")))
	for _, start := range append(starts, oneBlockDisks(t)...) {
		for _, data := range []string{"", "data", longText[:171]} {
			d, _, whole := roomy(start, impl.DiskAct{})
			was := whole()
			impl.OpenSlots(sealKey, d)
			acts, code := impl.SlotPlan(sealKey, d, data)
			x, _ := impl.SaveSlot(sealKey, d, data)
			if whole() != was {
				t.Fatalf("a save, %d, makes %.300s of %.300s", code, whole(), was)
			}
			more, _ := impl.SlotPlan(sealKey, d, data)
			y, _ := impl.SaveSlot(sealKey, d, data)
			want := diskText(y) + fmt.Sprint(more)
			spoil(x)
			clear(acts[:cap(acts)])
			if whole() != was || diskText(y)+fmt.Sprint(more) != want {
				t.Fatalf("what a save, %d, answers is another's memory, or its argument's", code)
			}
			spoil(d)
			if diskText(y)+fmt.Sprint(more) != want {
				t.Fatalf("what a save, %d, answers is its argument's memory", code)
			}
		}
	}
}

func TestP1NoTwoListsOfASaveShareMemory(t *testing.T) {
	d := slotSaved(t, stepped(t, slotDisk(t, 4, 5), saveAct), "data")
	saved := fmt.Sprint(d.Saved)
	for i := range d.Blocks {
		d.Blocks[i] = "spoilt"
	}
	_ = append(d.Blocks, "spoilt")
	if fmt.Sprint(d.Saved) != saved {
		t.Error("Blocks and Saved have one memory")
	}
}

// everySlotCall tells what each function of the slots answers to inputs drawn from a seed, wrong ones among them.
func everySlotCall(seed stream) string {
	s := seed
	key := s.text([]int{32, 32, 32, 32, 31, 33}[s.next()%6])
	place := []int{0, 1, 0, 1, -1, 2}[s.next()%6]
	slot := impl.Slot{Epoch: int(s.next()) - 10, Data: s.text([]int{0, 5, 169, 170, 171}[s.next()%5])}
	var out []string
	tell := func(x any, code int) { out = append(out, fmt.Sprintf("%x %d", x, code)) }
	b, code := impl.SlotBytes(key, place, slot)
	tell(b, code)
	tell(impl.ReadSlot(key, place, b))
	tell(impl.ReadSlot(key, place, []byte(s.text(40))))
	d, _ := impl.NewDisk([]int{1, 2, 2, 3, 64}[s.next()%5])
	for range int(s.next()) % 4 {
		if x, code := impl.SaveSlot(key, d, s.text(int(s.next())%180)); code == impl.OK {
			d = x
		}
		d, _ = impl.DiskStep(d, someAct(&s, 2))
	}
	tell(impl.OpenSlots(key, d))
	acts, code := impl.SlotPlan(key, d, slot.Data)
	tell(fmt.Sprint(acts), code)
	x, code := impl.SaveSlot(key, d, slot.Data)
	tell(diskText(x), code)
	return fmt.Sprint(impl.SlotOK(slot)) + strings.Join(out, "\n")
}

func TestP1AlikeArgumentsHaveAlikeSlots(t *testing.T) {
	alikeAnswers(t, everySlotCall)
}

func TestP1ManySlotsAtOnce(t *testing.T) {
	alikeAtOnce(t, everySlotCall)
}
