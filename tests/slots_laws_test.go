package tests

import (
	"encoding/binary"
	"fmt"
	"math"
	"slices"
	"strings"
	"testing"

	"loop.example/g00257/impl"
)

const lastEpoch = 4294967295

var (
	slotSizes = []int{0, 1, 2, 15, 16, 17, 31, 32, 33, 100, 168, 169, 170}

	epochEdges = []int{1, 2, 3, 255, 256, 257, 65535, 65536, 1<<24 - 1, 1 << 24, 1<<31 - 1, 1 << 31, lastEpoch - 1, lastEpoch}
)

// slotByRule seals by the library whatever it is given, so that a test may hand in what no slot holds.
func slotByRule(t *testing.T, key, extra string, place, epoch int, data string) string {
	t.Helper()
	encrypts, tags := keysByRule(t, key)
	head := string(binary.BigEndian.AppendUint32(nil, uint32(epoch)))
	nonce := "\x00\x00\x00\x00" + string(binary.BigEndian.AppendUint32(nil, uint32(place))) + head
	return head + sealedByRule(t, encrypts, tags, nonce, extra, data)
}

func slotBytes(t *testing.T, place, epoch int, data string) string {
	t.Helper()
	b, code := impl.SlotBytes(sealKey, place, impl.Slot{Epoch: epoch, Data: data})
	if code != impl.OK || len(b) != 4+len(data)+16 {
		t.Fatalf("SlotBytes of Epoch %d and %d bytes at %d is %d bytes, %d", epoch, len(data), place, len(b), code)
	}
	return string(b)
}

func slotReads(t *testing.T, why, key string, place int, b string, want impl.Slot) {
	t.Helper()
	if s, code := impl.ReadSlot(key, place, []byte(b)); s != want || code != impl.OK {
		t.Errorf("%s: ReadSlot of %d bytes at %d is %d, %q, %d, not %d, %q", why, len(b), place, s.Epoch, s.Data, code, want.Epoch, want.Data)
	}
}

func slotStaysSealed(t *testing.T, why, key string, place int, b string) {
	t.Helper()
	if s, code := impl.ReadSlot(key, place, []byte(b)); s != (impl.Slot{}) || code != impl.ErrSealed {
		t.Errorf("%s: ReadSlot of %d bytes at %d is %d, %q, %d", why, len(b), place, s.Epoch, s.Data, code)
	}
}

// opensAs wants an empty Slot where nothing is open.
func opensAs(t *testing.T, why string, d impl.Disk, want impl.Slot) {
	t.Helper()
	code := impl.OK
	if want == (impl.Slot{}) {
		code = impl.ErrNone
	}
	if s, got := impl.OpenSlots(sealKey, d); s != want || got != code {
		t.Fatalf("%s: OpenSlots is %d, %q, %d, not %d, %q, %d", why, s.Epoch, s.Data, got, want.Epoch, want.Data, code)
	}
}

func openSlot(t *testing.T, d impl.Disk) impl.Slot {
	t.Helper()
	s, code := impl.OpenSlots(sealKey, d)
	if code != impl.OK && (code != impl.ErrNone || s != (impl.Slot{})) {
		t.Fatalf("OpenSlots is %d, %q, %d", s.Epoch, s.Data, code)
	}
	return s
}

func planned(t *testing.T, d impl.Disk, data string) []impl.DiskAct {
	t.Helper()
	acts, code := impl.SlotPlan(sealKey, d, data)
	if code != impl.OK || len(acts) != 3 {
		t.Fatalf("SlotPlan of %d bytes is %d acts, %d", len(data), len(acts), code)
	}
	return acts
}

func slotSaved(t *testing.T, d impl.Disk, texts ...string) impl.Disk {
	t.Helper()
	for _, data := range texts {
		next, code := impl.SaveSlot(sealKey, d, data)
		if code != impl.OK || !impl.DiskOK(next) {
			t.Fatalf("SaveSlot of %d bytes is %d", len(data), code)
		}
		d = next
	}
	return d
}

// plansByRule asks for the three acts that the chapter tells, and nothing else in them.
func plansByRule(t *testing.T, why string, d impl.Disk, epoch int, data string) {
	t.Helper()
	at := epoch % 2
	want := []impl.DiskAct{syncAct, write(at, slotByRule(t, sealKey, "slot", at, epoch, data)), syncAct}
	acts, code := impl.SlotPlan(sealKey, d, data)
	same := slices.EqualFunc(acts, want, func(a, b impl.DiskAct) bool { return actText(a) == actText(b) })
	if code != impl.OK || !same {
		t.Errorf("%s: SlotPlan is %d acts, %d, not those of Epoch %d at block %d", why, len(acts), code, epoch, at)
	}
	behind, code := impl.SaveSlot(sealKey, d, data)
	if code != impl.OK || diskText(behind) != diskText(stepped(t, d, want...)) {
		t.Errorf("%s: SaveSlot is %.200s, %d", why, diskText(behind), code)
	}
	opensAs(t, why, behind, impl.Slot{Epoch: epoch, Data: data})
}

// slotDisk has slots of these Epochs in blocks 0 and 1, or other bytes where one is 0.
func slotDisk(t *testing.T, first, second int) impl.Disk {
	t.Helper()
	d, _ := impl.NewDisk(2)
	for place, epoch := range []int{first, second} {
		d.Blocks[place] = "no slot"
		if epoch != 0 {
			d.Blocks[place] = slotBytes(t, place, epoch, fmt.Sprint("data ", place))
		}
	}
	return d
}

// Worked out by another program than this one and the library that the other tests ask.
func TestP7ASlotWorkedOutElsewhere(t *testing.T) {
	var key strings.Builder
	for i := range 32 {
		key.WriteByte(byte(i))
	}
	want := unhex(t, "ffffffff"+"ad6c0088b032be80d942b78886f332067b0128ee2c8bbe5f200392f59992")
	s := impl.Slot{Epoch: lastEpoch, Data: "what is sealed"}
	if b, code := impl.SlotBytes(key.String(), 1, s); string(b) != want || code != impl.OK {
		t.Errorf("SlotBytes is %x, %d, not %x", b, code, want)
	}
	slotReads(t, "worked out", key.String(), 1, want, s)
}

func TestP7SlotsAreAsTheRuleHasThem(t *testing.T) {
	stream := stream(71)
	check := func(place, epoch, size int) {
		t.Helper()
		key, s := stream.text(32), impl.Slot{Epoch: epoch, Data: stream.text(size)}
		want := slotByRule(t, key, "slot", place, epoch, s.Data)
		if b, code := impl.SlotBytes(key, place, s); string(b) != want || code != impl.OK {
			t.Fatalf("SlotBytes of Epoch %d and %d bytes at %d is %x, %d, not %x", epoch, size, place, b, code, want)
		}
		slotReads(t, "by the rule", key, place, want, s)
	}
	for place := range 2 {
		for size := range impl.MaxSlot + 1 {
			check(place, 1+size, size)
		}
		for _, epoch := range epochEdges {
			for _, size := range slotSizes {
				check(place, epoch, size)
			}
		}
	}
}

func TestP7ASlotThatIsChangedStaysSealed(t *testing.T) {
	for place := range 2 {
		for _, size := range []int{0, 1, 16, 33, impl.MaxSlot} {
			for _, epoch := range []int{1, 2, 256, lastEpoch} {
				b := slotBytes(t, place, epoch, longText[:size])
				for at := range b {
					slotStaysSealed(t, "a bit", sealKey, place, withBit(b, 8*at+at%8))
				}
			}
		}
		b := slotBytes(t, place, 258, "bytes of a slot")
		for bit := range 8 * len(b) {
			slotStaysSealed(t, "each bit", sealKey, place, withBit(b, bit))
		}
	}
}

func TestP7ASlotThatIsCutOrLengthenedStaysSealed(t *testing.T) {
	for place := range 2 {
		for _, size := range []int{0, 1, 40, impl.MaxSlot} {
			b := slotBytes(t, place, 3, longText[:size])
			for n := range b {
				slotStaysSealed(t, "cut at its end", sealKey, place, b[:n])
				slotStaysSealed(t, "cut at its beginning", sealKey, place, b[n+1:])
			}
			for _, more := range []string{"\x00", "\xff", "\x00\x00\x00\x03", b} {
				slotStaysSealed(t, "longer at its end", sealKey, place, b+more)
				slotStaysSealed(t, "longer at its beginning", sealKey, place, more+b)
			}
			slotStaysSealed(t, "the longest", sealKey, place, b+longText[:impl.MaxText-len(b)])
		}
		for n := range 25 {
			slotStaysSealed(t, "noughts", sealKey, place, strings.Repeat("\x00", n))
		}
	}
}

func TestP7SlotsOfOthersStaySealed(t *testing.T) {
	s := stream(72)
	for place := range 2 {
		for _, epoch := range epochEdges {
			b := slotBytes(t, place, epoch, "data")
			slotReads(t, "its own place", sealKey, place, b, impl.Slot{Epoch: epoch, Data: "data"})
			slotStaysSealed(t, "another place", sealKey, 1-place, b)
			slotStaysSealed(t, "another key", s.text(32), place, b)
			slotStaysSealed(t, "another key", withBit(sealKey, epoch%256), place, b)
			for _, other := range epochEdges {
				if other != epoch {
					slotStaysSealed(t, "another Epoch ahead", sealKey, place, slotBytes(t, place, other, "data")[:4]+b[4:])
				}
			}
		}
		for _, extra := range []string{"", "slo", "slots", "Slot", "piece"} {
			slotStaysSealed(t, "extra "+extra, sealKey, place, slotByRule(t, sealKey, extra, place, 3, "data"))
		}
	}
}

// Whoever has the key can seal these; they are no slot's bytes all the same.
func TestP7WhatNoSlotHoldsStaysSealed(t *testing.T) {
	for place := range 2 {
		slotStaysSealed(t, "Epoch 0", sealKey, place, slotByRule(t, sealKey, "slot", place, 0, "data"))
		slotStaysSealed(t, "Epoch 0", sealKey, place, slotByRule(t, sealKey, "slot", place, 0, ""))
		for _, size := range []int{impl.MaxSlot + 1, 180, 200, 256 + 4, 1000, impl.MaxText - 20} {
			slotStaysSealed(t, "too long", sealKey, place, slotByRule(t, sealKey, "slot", place, 1, longText[:size]))
		}
		most := longText[:impl.MaxSlot]
		slotReads(t, "the longest", sealKey, place, slotByRule(t, sealKey, "slot", place, 1, most), impl.Slot{Epoch: 1, Data: most})
		d := slotDisk(t, 5, 5)
		d.Blocks[place] = slotByRule(t, sealKey, "slot", place, 9, longText[:impl.MaxSlot+1])
		opensAs(t, "one is too long", d, impl.Slot{Epoch: 5, Data: fmt.Sprint("data ", 1-place)})
	}
}

func TestP7TheGreaterEpochIsOpen(t *testing.T) {
	opensAs(t, "a new disk", ran(t, 2), impl.Slot{})
	opensAs(t, "a new disk", ran(t, 64), impl.Slot{})
	opensAs(t, "none", slotDisk(t, 0, 0), impl.Slot{})
	for _, first := range append([]int{0}, epochEdges...) {
		for _, second := range append([]int{0}, epochEdges...) {
			want := impl.Slot{}
			if first != 0 {
				want = impl.Slot{Epoch: first, Data: "data 0"}
			}
			if second > first {
				want = impl.Slot{Epoch: second, Data: "data 1"}
			}
			opensAs(t, fmt.Sprint("Epochs ", first, second), slotDisk(t, first, second), want)
		}
	}
}

func TestP7ASlotIsOpenAtItsPlaceAlone(t *testing.T) {
	d := slotDisk(t, 4, 5)
	changed := impl.Disk{Blocks: []string{d.Blocks[1], d.Blocks[0]}}
	opensAs(t, "changed over", changed, impl.Slot{})
	opensAs(t, "twice", impl.Disk{Blocks: []string{d.Blocks[0], d.Blocks[0]}}, impl.Slot{Epoch: 4, Data: "data 0"})
	opensAs(t, "twice", impl.Disk{Blocks: []string{d.Blocks[1], d.Blocks[1]}}, impl.Slot{Epoch: 5, Data: "data 1"})
	opensAs(t, "other blocks", impl.Disk{Blocks: []string{"", "", d.Blocks[0], d.Blocks[1], slotBytes(t, 0, 9, "x")}}, impl.Slot{})
	opensAs(t, "beside other blocks", impl.Disk{Blocks: []string{d.Blocks[0], "", slotBytes(t, 0, 9, "x"), slotBytes(t, 1, 9, "x")}}, impl.Slot{Epoch: 4, Data: "data 0"})
	opensAs(t, "saved blocks", withSaved(ran(t, 2), d.Blocks...), impl.Slot{})
	for _, key := range []string{withBit(sealKey, 0), withBit(sealKey, 255)} {
		if s, code := impl.OpenSlots(key, d); s != (impl.Slot{}) || code != impl.ErrNone {
			t.Errorf("OpenSlots by another key is %d, %q, %d", s.Epoch, s.Data, code)
		}
	}
}

func TestP7WhatWaitsInTheCacheIsRead(t *testing.T) {
	d := slotDisk(t, 4, 5)
	newer := slotBytes(t, 0, 6, "six")
	opensAs(t, "block 0 waits", stepped(t, d, write(0, newer)), impl.Slot{Epoch: 6, Data: "six"})
	opensAs(t, "its last write", stepped(t, d, write(0, newer), write(0, "x")), impl.Slot{Epoch: 5, Data: "data 1"})
	opensAs(t, "its last write", stepped(t, d, write(0, "x"), write(0, newer)), impl.Slot{Epoch: 6, Data: "six"})
	opensAs(t, "both wait", stepped(t, d, write(1, slotBytes(t, 1, 7, "seven")), write(0, newer)), impl.Slot{Epoch: 7, Data: "seven"})
	opensAs(t, "an elder one waits", stepped(t, d, write(1, slotBytes(t, 1, 3, "three"))), impl.Slot{Epoch: 4, Data: "data 0"})
	opensAs(t, "nothing waits", stepped(t, d, write(0, ""), write(1, "")), impl.Slot{})
	opensAs(t, "behind what waits", stepped(t, d, write(0, newer), tamper(0, "x")), impl.Slot{Epoch: 6, Data: "six"})
	opensAs(t, "other blocks wait", stepped(t, ran(t, 3), write(2, newer), write(0, newer), write(2, "x")), impl.Slot{Epoch: 6, Data: "six"})
	opensAs(t, "a full Cache", fullDisk(t), impl.Slot{})
}

func TestP7PlansAreAsTheRuleHasThem(t *testing.T) {
	for _, size := range slotSizes {
		plansByRule(t, "a new disk", ran(t, 2), 1, longText[:size])
		plansByRule(t, "a new disk", ran(t, 64), 1, longText[:size])
	}
	for _, first := range append([]int{0}, epochEdges...) {
		for _, second := range append([]int{0}, epochEdges...) {
			if next := max(first, second) + 1; next <= lastEpoch {
				plansByRule(t, fmt.Sprint("Epochs ", first, second), slotDisk(t, first, second), next, "data")
			}
		}
	}
	d := slotDisk(t, 4, 5)
	six, seven := slotBytes(t, 0, 6, "six"), slotBytes(t, 1, 7, "seven")
	plansByRule(t, "a write waits", stepped(t, d, write(0, six)), 7, "data")
	plansByRule(t, "two wait", stepped(t, d, write(0, six), write(1, seven)), 8, "data")
	plansByRule(t, "two wait", stepped(t, d, write(0, six), write(1, "x"), write(0, "y")), 1, "data")
	plansByRule(t, "something is saved", stepped(t, d, saveAct, write(0, six), syncAct), 7, "")
	plansByRule(t, "other blocks wait", stepped(t, ran(t, 4), write(2, six), write(3, seven)), 1, "data")
	plansByRule(t, "a full Cache", fullDisk(t), 1, longText[:impl.MaxSlot])
}

func TestP7AnotherKeyBeginsAnew(t *testing.T) {
	d := slotSaved(t, ran(t, 2), "one", "two", "three")
	other := withBit(sealKey, 17)
	x, code := impl.SaveSlot(other, d, "mine")
	if s, opened := impl.OpenSlots(other, x); code != impl.OK || opened != impl.OK || s != (impl.Slot{Epoch: 1, Data: "mine"}) {
		t.Errorf("SaveSlot by another key is %d, and opens as %d, %q, %d", code, s.Epoch, s.Data, opened)
	}
	opensAs(t, "what the other key left", x, impl.Slot{Epoch: 2, Data: "two"})
}

func TestP7WhatIsSavedIsOpened(t *testing.T) {
	s := stream(73)
	for _, blocks := range []int{2, 3, 7, 63, 64} {
		d := ran(t, blocks)
		if blocks > 2 {
			d = stepped(t, d, write(2, "left alone"), write(blocks-1, "the last one"), syncAct, saveAct)
		}
		rest, saved := slices.Clone(d.Blocks[2:]), slices.Clone(d.Saved)
		for epoch := 1; epoch <= 60; epoch++ {
			data := s.text(slotSizes[int(s.next())%len(slotSizes)])
			elder := d.Blocks[1-epoch%2]
			d = slotSaved(t, d, data)
			opensAs(t, "saved", d, impl.Slot{Epoch: epoch, Data: data})
			if !slices.Equal(d.Blocks[2:], rest) || !slices.Equal(d.Saved, saved) || len(d.Cache) != 0 {
				t.Fatalf("a save of Epoch %d makes %.300s", epoch, diskText(d))
			}
			if d.Blocks[1-epoch%2] != elder || d.Blocks[epoch%2] != slotBytes(t, epoch%2, epoch, data) {
				t.Fatalf("Epoch %d is not where it belongs", epoch)
			}
		}
	}
	d := slotSaved(t, ran(t, 2), "same", "same", "same", "", "")
	opensAs(t, "the same again", d, impl.Slot{Epoch: 5})
}

func TestP7TheLastEpochs(t *testing.T) {
	for place := range 2 {
		epochs := []int{0, 0}
		epochs[place] = lastEpoch - 2
		d := slotDisk(t, epochs[0], epochs[1])
		for epoch := lastEpoch - 1; epoch <= lastEpoch; epoch++ {
			plansByRule(t, "near the end", d, epoch, longText[:impl.MaxSlot])
			d = slotSaved(t, d, "data")
			opensAs(t, "near the end", d, impl.Slot{Epoch: epoch, Data: "data"})
		}
		savesNothing(t, "the end", sealKey, d, "data", impl.ErrFull)
		opensAs(t, "the end", d, impl.Slot{Epoch: lastEpoch, Data: "data"})
		opensAs(t, "the end is torn", stepped(t, d, tamper(1, "x")), impl.Slot{Epoch: lastEpoch - 1, Data: "data"})
		plansByRule(t, "the end is torn", stepped(t, d, tamper(1, "x")), lastEpoch, "again")
	}
}

// cutAfter are all disks that a power cut behind the first acts may leave.
func cutAfter(t *testing.T, d impl.Disk, acts []impl.DiskAct) []impl.Disk {
	t.Helper()
	d = stepped(t, d, acts...)
	var out []impl.Disk
	for n := range len(d.Cache) + 2 {
		for _, keep := range flags(n) {
			for torn := -1; torn <= impl.MaxBlock+1; torn++ {
				out = append(out, stepped(t, d, crash(torn, keep...)))
			}
			out = append(out, stepped(t, d, crash(math.MinInt, keep...)), stepped(t, d, crash(math.MaxInt, keep...)))
		}
	}
	return out
}

func TestP7WhereverThePowerGoes(t *testing.T) {
	s := stream(74)
	for _, sizes := range [][]int{{0, 0, 0, 0}, {170, 170, 170, 170, 170}, {0, 170, 0, 170, 0}, {170, 0, 170, 0}, {170, 170, 0, 0, 170}, {5, 3, 4, 5, 40, 39}} {
		d := ran(t, 2)
		for _, size := range sizes {
			before, data := openSlot(t, d), s.text(size)
			after := impl.Slot{Epoch: before.Epoch + 1, Data: data}
			acts := planned(t, d, data)
			for cut := range 4 {
				for _, x := range cutAfter(t, d, acts[:cut]) {
					is := openSlot(t, x)
					if is != before && is != after || cut < 2 && is != before || cut == 3 && is != after {
						t.Fatalf("a power cut behind %d acts opens as %d, %q, neither %d, %q, nor %d, %q", cut, is.Epoch, is.Data, before.Epoch, before.Data, after.Epoch, after.Data)
					}
				}
			}
			d = slotSaved(t, d, data)
		}
	}
}

// A write that is kept, or torn behind its end where nothing is left over, is there; one that is torn ahead of it is not.
func TestP7ATornSlotDoesNotOpen(t *testing.T) {
	for _, epoch := range []int{2, 3} {
		d := slotSaved(t, ran(t, 2), "one", "two", "six")
		if epoch == 2 {
			d = slotSaved(t, ran(t, 2), "one", "two")
		}
		before := openSlot(t, d)
		acts := planned(t, d, "new")
		d = stepped(t, d, acts[:2]...)
		after := impl.Slot{Epoch: epoch + 1, Data: "new"}
		size := len(acts[1].Data)
		for torn := range size {
			opensAs(t, fmt.Sprint("torn behind ", torn), stepped(t, d, crash(torn)), before)
		}
		opensAs(t, "torn behind its end", stepped(t, d, crash(size)), after)
		opensAs(t, "kept", stepped(t, d, crash(0, true)), after)
		opensAs(t, "read ahead of the sync", d, after)
	}
	d := slotSaved(t, ran(t, 2), "a longer one", "two")
	x := stepped(t, d, planned(t, d, "new")[:2]...)
	opensAs(t, "the longer one's end is left over", stepped(t, x, crash(200)), impl.Slot{Epoch: 2, Data: "two"})
	opensAs(t, "replaced as a whole", stepped(t, x, syncAct), impl.Slot{Epoch: 3, Data: "new"})
}

// Another plan goes by what waits, and makes it sure ahead of its own write: else one crash could take both.
func TestP7APlanThatWasLeftUnfinished(t *testing.T) {
	s := stream(75)
	for saves := range 4 {
		d := ran(t, 2)
		for range saves {
			d = slotSaved(t, d, s.text(slotSizes[int(s.next())%len(slotSizes)]))
		}
		d = stepped(t, d, planned(t, d, "waits")[:2]...)
		waits := impl.Slot{Epoch: saves + 1, Data: "waits"}
		opensAs(t, "unfinished", d, waits)
		acts := planned(t, d, "new")
		after := impl.Slot{Epoch: saves + 2, Data: "new"}
		for cut := 1; cut < 4; cut++ {
			for _, x := range cutAfter(t, d, acts[:cut]) {
				if is := openSlot(t, x); is != waits && is != after || cut == 1 && is != waits || cut == 3 && is != after {
					t.Fatalf("a power cut behind %d acts opens as %d, %q", cut, is.Epoch, is.Data)
				}
			}
		}
	}
}

// Power cuts again and again, saves between them: each leaves what was open, or what was to be saved.
func TestP7PowerCutsAgainAndAgain(t *testing.T) {
	for seed := range 150 {
		s := stream(seed)
		d := ran(t, []int{2, 3, 64}[seed%3])
		for range 25 {
			before, data := openSlot(t, d), s.text(slotSizes[int(s.next())%len(slotSizes)])
			after := impl.Slot{Epoch: before.Epoch + 1, Data: data}
			cut := int(s.next()) % 5
			if cut == 4 {
				d = slotSaved(t, d, data)
				opensAs(t, "saved", d, after)
				continue
			}
			d = stepped(t, d, planned(t, d, data)[:cut]...)
			var keep []bool
			for range int(s.next()) % 3 {
				keep = append(keep, s.next() < 100)
			}
			d = stepped(t, d, crash(int(s.next())-20, keep...))
			is := openSlot(t, d)
			if is != before && is != after || cut < 2 && is != before || cut == 3 && is != after {
				t.Fatalf("seed %d: a power cut behind %d acts opens as %d, %q, neither %d, %q, nor %d, %q", seed, cut, is.Epoch, is.Data, before.Epoch, before.Data, after.Epoch, after.Data)
			}
		}
	}
}

// Slots alone do not know that they are elder: that is for a register to tell.
func TestP7ARollBackOpensWhatWasThere(t *testing.T) {
	d := stepped(t, slotSaved(t, ran(t, 2), "one", "two"), saveAct)
	d = slotSaved(t, d, "three", "four")
	opensAs(t, "saved", d, impl.Slot{Epoch: 4, Data: "four"})
	opensAs(t, "rolled back", stepped(t, d, rollbackAct), impl.Slot{Epoch: 2, Data: "two"})
}
