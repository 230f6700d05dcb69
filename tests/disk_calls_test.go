package tests

import (
	"fmt"
	"math"
	"slices"
	"strings"
	"testing"

	"loop.example/g00257/impl"
)

var (
	longestBlock = longText[:impl.MaxBlock]
	longBlock    = longText[:impl.MaxBlock+1]

	// noBlocks are numbers of blocks that no disk has, the nearest and the farthest ones, and such as would be right if they were cut.
	noBlocks = []int{0, impl.MaxBlocks + 1, -1, -2, 66, 128, 256, -64, 1<<8 + 1, 1<<16 + 1, 1<<32 + 1, -1<<32 + 1, 1 << 62, math.MinInt, math.MinInt + 1, math.MaxInt - 1, math.MaxInt}

	noKinds = []int{0, 7, -1, 8, 9, -2, -6, 255, 256 + 1, 1<<32 + 1, 1<<32 + 2, math.MinInt, math.MaxInt}

	allKinds = append([]int{1, 2, 3, 4, 5, 6}, noKinds...)
)

// noPlaces are numbers that no block of so many has.
func noPlaces(blocks int) []int {
	return []int{-1, blocks, blocks + 1, -blocks, -blocks - 1, 64, 1<<32 + blocks - 1, 1 << 32, -1 << 32, math.MinInt, math.MaxInt}
}

func withBlock(d impl.Disk, at int, data string) impl.Disk {
	d.Blocks = slices.Clone(d.Blocks)
	d.Blocks[at] = data
	return d
}

func withSaved(d impl.Disk, saved ...string) impl.Disk {
	d.Saved = saved
	return d
}

func withWrite(d impl.Disk, i, at int, data string) impl.Disk {
	d.Cache = slices.Insert(slices.Clone(d.Cache), i, impl.Pending{At: at, Data: data})
	return d
}

// smallDisk has two blocks, three writes in its Cache, and something saved.
func smallDisk(t *testing.T) impl.Disk {
	t.Helper()
	return ran(t, 2, write(0, "sure"), syncAct, saveAct, tamper(1, "other"), write(0, "one"), write(1, "two"), write(0, "three"))
}

func rightDisks(t *testing.T) []impl.Disk {
	t.Helper()
	var out []impl.Disk
	for n := 1; n <= impl.MaxBlocks; n++ {
		out = append(out, ran(t, n), ran(t, n, saveAct), ran(t, n, write(n-1, "x")))
	}
	small := smallDisk(t)
	return append(out, small, withSaved(small), withSaved(small, "", ""), withSaved(small, longestBlock, longestBlock),
		withBlock(small, 0, longestBlock), withBlock(small, 1, longestBlock), withWrite(small, 3, 1, longestBlock), withWrite(small, 0, 0, ""),
		fullDisk(t), withSaved(fullDisk(t), make([]string, 64)...),
		impl.Disk{Blocks: []string{""}, Cache: []impl.Pending{}, Saved: []string{}})
}

// wrongDisks have one fault each, but for the last ones.
func wrongDisks(t *testing.T) []impl.Disk {
	t.Helper()
	small := smallDisk(t)
	many := slices.Repeat([]string{""}, 65)
	out := []impl.Disk{{}, {Blocks: []string{}, Cache: []impl.Pending{}, Saved: []string{}}, {Blocks: many}, {Blocks: slices.Repeat(many, 65)}, {Blocks: slices.Repeat(many, 65)[:impl.MaxList]},
		{Saved: []string{""}}, {Cache: []impl.Pending{{}}}, {Blocks: many, Saved: many},
		withSaved(small, ""), withSaved(small, "", "", ""), withSaved(small, many...), withSaved(small, longBlock, ""), withSaved(small, "", longBlock),
		withBlock(small, 0, longBlock), withBlock(small, 1, longBlock), withBlock(small, 1, longText),
	}
	for i := range 4 {
		for _, at := range noPlaces(2) {
			out = append(out, withWrite(small, i, at, "x"))
		}
		out = append(out, withWrite(small, i, 0, longBlock), withWrite(small, i, 1, longText))
	}
	full := fullDisk(t)
	return append(out, withWrite(full, 7, 0, "x"), impl.Disk{Blocks: full.Blocks, Cache: slices.Concat(full.Cache, full.Cache)},
		withBlock(withSaved(small, ""), 0, longText), withWrite(withSaved(full, longBlock), 1, 64, longBlock))
}

func TestP1BoundsOfDisks(t *testing.T) {
	if impl.MaxBlocks != 64 || impl.MaxBlock != 200 || impl.MaxActs != 120 {
		t.Error("MaxBlocks, MaxBlock and MaxActs are", impl.MaxBlocks, impl.MaxBlock, impl.MaxActs)
	}
	kinds := []int{impl.DkWrite, impl.DkSync, impl.DkCrash, impl.DkSave, impl.DkRollback, impl.DkTamper}
	if !slices.Equal(kinds, []int{1, 2, 3, 4, 5, 6}) {
		t.Error("the kinds of acts are", kinds)
	}
}

func TestP1NewDisks(t *testing.T) {
	for _, n := range noBlocks {
		if d, code := impl.NewDisk(n); code != impl.ErrRange || diskText(d) != diskText(impl.Disk{}) {
			t.Errorf("NewDisk of %d is %s, %d", n, diskText(d), code)
		}
	}
	for n := 1; n <= impl.MaxBlocks; n++ {
		d, code := impl.NewDisk(n)
		if code != impl.OK || len(d.Blocks) != n || len(d.Cache) != 0 || len(d.Saved) != 0 || !impl.DiskOK(d) {
			t.Errorf("NewDisk of %d is %s, %d", n, diskText(d), code)
		}
		readsAs(t, "new", d, make([]string, n)...)
	}
}

func TestP1DisksThatAreSo(t *testing.T) {
	for _, d := range rightDisks(t) {
		if !impl.DiskOK(d) {
			t.Errorf("DiskOK of %.200s is false", diskText(d))
		}
	}
	for _, d := range wrongDisks(t) {
		if impl.DiskOK(d) {
			t.Errorf("DiskOK of %.200s is true", diskText(d))
		}
	}
}

func TestP1DisksThatAreNotSo(t *testing.T) {
	right := smallDisk(t)
	for _, d := range wrongDisks(t) {
		for _, at := range append(noPlaces(2), 0, 1) {
			if text, code := impl.DiskRead(d, at); text != "" || code != impl.ErrBad {
				t.Errorf("DiskRead of block %d of %.200s is %q, %d", at, diskText(d), text, code)
			}
		}
		for _, kind := range allKinds {
			for _, at := range []int{0, 1, 2, -1} {
				for _, data := range []string{"x", longBlock} {
					x, code := impl.DiskStep(d, impl.DiskAct{Kind: kind, At: at, Data: data})
					if code != impl.ErrBad || diskText(x) != diskText(impl.Disk{}) {
						t.Errorf("DiskStep of kind %d of %.200s is %.200s, %d", kind, diskText(d), diskText(x), code)
					}
				}
			}
		}
		for _, pair := range [][2]impl.Disk{{d, right}, {right, d}, {d, d}} {
			if same, code := impl.DiskSame(pair[0], pair[1]); same || code != impl.ErrBad {
				t.Errorf("DiskSame of %.200s and %.200s is %v, %d", diskText(pair[0]), diskText(pair[1]), same, code)
			}
		}
	}
}

func TestP1BlocksThatAreNotThere(t *testing.T) {
	for _, d := range rightDisks(t) {
		places := noPlaces(len(d.Blocks))
		for _, at := range places {
			if text, code := impl.DiskRead(d, at); text != "" || code != impl.ErrRange {
				t.Errorf("DiskRead of block %d of %d is %q, %d", at, len(d.Blocks), text, code)
			}
		}
		for _, at := range []int{0, len(d.Blocks) - 1} {
			if _, code := impl.DiskRead(d, at); code != impl.OK {
				t.Errorf("DiskRead of block %d of %d is %d", at, len(d.Blocks), code)
			}
		}
	}
}

// refuses asks for a code with a disk that is as it was.
func refuses(t *testing.T, d impl.Disk, a impl.DiskAct, want int) {
	t.Helper()
	x, code := impl.DiskStep(d, a)
	if code != want || diskText(x) != diskText(d) {
		t.Errorf("DiskStep of kind %d, at %d, of %d bytes, of %.200s is %.200s, %d, not %d", a.Kind, a.At, len(a.Data), diskText(d), diskText(x), code, want)
	}
}

func TestP1ActsThatAreRefused(t *testing.T) {
	for _, d := range append(rightDisks(t), smallDisk(t)) {
		for _, kind := range []int{impl.DkWrite, impl.DkTamper} {
			for _, at := range noPlaces(len(d.Blocks)) {
				refuses(t, d, impl.DiskAct{Kind: kind, At: at, Data: "x"}, impl.ErrRange)
				refuses(t, d, impl.DiskAct{Kind: kind, At: at, Data: longBlock}, impl.ErrRange)
			}
			for _, long := range []string{longBlock, longText[:256], longText[:impl.MaxText], longText} {
				refuses(t, d, impl.DiskAct{Kind: kind, Data: long}, impl.ErrLong)
				refuses(t, d, impl.DiskAct{Kind: kind, At: len(d.Blocks) - 1, Data: long}, impl.ErrLong)
			}
		}
		for _, kind := range noKinds {
			refuses(t, d, impl.DiskAct{Kind: kind, Data: "x"}, impl.ErrForm)
			refuses(t, d, impl.DiskAct{Kind: kind, At: -1, Data: longText, Keep: make([]bool, impl.MaxList+1)}, impl.ErrForm)
		}
		if len(d.Saved) == 0 {
			refuses(t, d, rollbackAct, impl.ErrNone)
			refuses(t, d, impl.DiskAct{Kind: impl.DkRollback, At: -1, Data: longText}, impl.ErrNone)
		}
	}
}

func TestP1OneWriteTooMany(t *testing.T) {
	full := fullDisk(t)
	refuses(t, full, write(0, "x"), impl.ErrFull)
	refuses(t, full, write(63, ""), impl.ErrFull)
	refuses(t, full, write(63, longestBlock), impl.ErrFull)
	refuses(t, full, write(63, longBlock), impl.ErrLong)
	refuses(t, full, write(64, longBlock), impl.ErrRange)
	refuses(t, full, write(-1, "x"), impl.ErrRange)
	stepped(t, full, tamper(0, "x"))
	stepped(t, full, syncAct, write(0, "x"))
	almost := full
	almost.Cache = full.Cache[:impl.MaxList-1]
	x := stepped(t, almost, write(5, "last"))
	if text, code := impl.DiskRead(x, 5); text != "last" || code != impl.OK || len(x.Cache) != impl.MaxList {
		t.Errorf("the last write reads %q, %d, of %d in the Cache", text, code, len(x.Cache))
	}
	refuses(t, x, write(5, "x"), impl.ErrFull)
}

func TestP1WhatAnActDoesNotUse(t *testing.T) {
	d := smallDisk(t)
	extra := impl.DiskAct{At: -1, Data: longText, Keep: make([]bool, impl.MaxList+1), Torn: -5}
	for _, kind := range []int{impl.DkSync, impl.DkSave, impl.DkRollback} {
		a := extra
		a.Kind = kind
		if x := stepped(t, d, a); diskText(x) != diskText(stepped(t, d, impl.DiskAct{Kind: kind})) {
			t.Errorf("kind %d with what it does not use is %.200s", kind, diskText(x))
		}
	}
	long := slices.Repeat([]bool{true}, impl.MaxList+1)
	kept := impl.DiskAct{Kind: impl.DkCrash, At: 9, Data: longText, Keep: long}
	if x := stepped(t, d, kept); diskText(x) != diskText(stepped(t, d, syncAct)) {
		t.Errorf("a crash with more flags than writes is %.200s", diskText(x))
	}
	for _, kind := range []int{impl.DkWrite, impl.DkTamper} {
		a := impl.DiskAct{Kind: kind, At: 1, Data: "x", Keep: long, Torn: 1}
		if x := stepped(t, d, a); diskText(x) != diskText(stepped(t, d, impl.DiskAct{Kind: kind, At: 1, Data: "x"})) {
			t.Errorf("kind %d with flags is %.200s", kind, diskText(x))
		}
	}
}

func runIs(t *testing.T, why string, blocks int, acts []impl.DiskAct, want int) {
	t.Helper()
	d, codes, code := impl.DiskRun(blocks, acts)
	if code != want || want != impl.OK && (len(codes) != 0 || diskText(d) != diskText(impl.Disk{})) {
		t.Errorf("%s: DiskRun of %d blocks and %d acts is %.200s, %d codes, %d, not %d", why, blocks, len(acts), diskText(d), len(codes), code, want)
	}
}

// longActs have one act each that is too long for a run, at the first place, the last one, or between.
func longActs(n int) [][]impl.DiskAct {
	var out [][]impl.DiskAct
	for _, kind := range allKinds {
		for _, a := range []impl.DiskAct{{Kind: kind, Data: longText}, {Kind: kind, Keep: make([]bool, impl.MaxList+1)}, {Kind: kind, At: -1, Data: longText, Keep: make([]bool, 2*impl.MaxList)}} {
			for _, i := range []int{0, n / 2, n - 1} {
				acts := make([]impl.DiskAct, n)
				acts[i] = a
				out = append(out, acts)
			}
		}
	}
	return out
}

func TestP1RunsThatAreRefused(t *testing.T) {
	for _, n := range []int{0, 1, 119, 120, 121, 122, 1000, 4095, 4096} {
		acts := make([]impl.DiskAct, n)
		for _, blocks := range noBlocks {
			runIs(t, "no such disk", blocks, acts, impl.ErrRange)
		}
		want := impl.OK
		if n > 120 {
			want = impl.ErrMany
		}
		for _, blocks := range []int{1, 2, 64} {
			runIs(t, "acts", blocks, acts, want)
		}
	}
	for _, n := range []int{4097, 5000, 70000} {
		acts := make([]impl.DiskAct, n)
		for _, blocks := range append([]int{1, 64}, noBlocks...) {
			acts[n-1].Data = ""
			runIs(t, "a list that is too long", blocks, acts, impl.ErrLong)
			acts[n-1].Data = longText
			runIs(t, "all at once", blocks, acts, impl.ErrLong)
		}
	}
	for _, acts := range longActs(120) {
		runIs(t, "long", 1, acts, impl.ErrLong)
		runIs(t, "long", 64, acts, impl.ErrLong)
		runIs(t, "long, and no such disk", 0, acts, impl.ErrRange)
		runIs(t, "long, and no such disk", 65, acts, impl.ErrRange)
	}
	for _, acts := range longActs(121) {
		runIs(t, "long, and too many", 1, acts, impl.ErrMany)
		runIs(t, "long, too many, and no such disk", -1, acts, impl.ErrRange)
	}
}

func TestP1TheMostThatARunTakes(t *testing.T) {
	for _, acts := range [][]impl.DiskAct{nil, {}} {
		d, codes, code := impl.DiskRun(2, acts)
		if code != impl.OK || len(codes) != 0 || diskText(d) != diskText(ran(t, 2)) || len(d.Blocks) != 2 {
			t.Errorf("DiskRun of no acts is %s, %v, %d", diskText(d), codes, code)
		}
	}
	acts := []impl.DiskAct{
		{Kind: impl.DkWrite, Data: longText[:impl.MaxText]},
		{Kind: impl.DkWrite, At: 1, Data: longText[:impl.MaxText]},
		{Kind: impl.DkWrite, Data: longestBlock, Keep: make([]bool, impl.MaxList)},
		{Kind: impl.DkTamper, Data: longText[:impl.MaxText]},
		{Kind: impl.DkSync, Data: longText[:impl.MaxText]},
		{Kind: impl.DkCrash, Keep: make([]bool, impl.MaxList)},
		{Kind: 7, Data: longText[:impl.MaxText]},
	}
	_, codes, code := impl.DiskRun(1, acts)
	if want := []int{impl.ErrLong, impl.ErrRange, 0, impl.ErrLong, 0, 0, impl.ErrForm}; code != impl.OK || !slices.Equal(codes, want) {
		t.Errorf("DiskRun is %v, %d, not %v", codes, code, want)
	}
	var many []impl.DiskAct
	for i := range impl.MaxActs {
		many = append(many, write(i%64, fmt.Sprint(i)))
	}
	d := ran(t, 64, many...)
	if text, _ := impl.DiskRead(d, 55); text != "119" || len(d.Cache) != impl.MaxActs {
		t.Errorf("MaxActs writes: block 55 reads %q, with %d in the Cache", text, len(d.Cache))
	}
}

func TestP1ARunGoesOnBehindACode(t *testing.T) {
	acts := []impl.DiskAct{write(0, "a"), write(2, "b"), rollbackAct, {Kind: 7}, write(1, "c"), write(0, longBlock), tamper(-1, "d"), syncAct, tamper(1, longBlock), saveAct, rollbackAct}
	d, codes, code := impl.DiskRun(2, acts)
	want := []int{0, impl.ErrRange, impl.ErrNone, impl.ErrForm, 0, impl.ErrLong, impl.ErrRange, 0, impl.ErrLong, 0, 0}
	if code != impl.OK || !slices.Equal(codes, want) || diskText(d) != `["a" "c"] [] ["a" "c"]` {
		t.Errorf("DiskRun is %s, %v, %d, not %v", diskText(d), codes, code, want)
	}
}

func TestP1NoListAndAnEmptyOneAreOneDisk(t *testing.T) {
	none := impl.Disk{Blocks: []string{"a"}}
	empty := impl.Disk{Blocks: []string{"a"}, Cache: []impl.Pending{}, Saved: []string{}}
	for _, kind := range allKinds {
		x, code := impl.DiskStep(none, impl.DiskAct{Kind: kind, Data: "b"})
		y, codeY := impl.DiskStep(empty, impl.DiskAct{Kind: kind, Data: "b", Keep: []bool{}})
		if diskText(x) != diskText(y) || code != codeY {
			t.Errorf("kind %d makes %s, %d of a disk without lists, and %s, %d of one with empty ones", kind, diskText(x), code, diskText(y), codeY)
		}
	}
	same(t, none, empty, true)
}

// roomy is a disk and an act whose lists have room behind their ends that nothing may be written into; whole tells all of that memory.
func roomy(d impl.Disk, a impl.DiskAct) (impl.Disk, impl.DiskAct, func() string) {
	blocks := append(slices.Clone(d.Blocks), "behind", "behind")
	cache := append(slices.Clone(d.Cache), impl.Pending{At: 7, Data: "behind"}, impl.Pending{At: 8, Data: "behind"})
	saved := append(slices.Clone(d.Saved), "behind", "behind")
	keep := append(slices.Clone(a.Keep), true, false, true)
	d = impl.Disk{Blocks: blocks[:len(d.Blocks)], Cache: cache[:len(d.Cache)], Saved: saved[:len(d.Saved)]}
	a.Keep = keep[:len(a.Keep)]
	return d, a, func() string {
		return diskText(impl.Disk{Blocks: blocks, Cache: cache, Saved: saved}) + fmt.Sprint(keep)
	}
}

// spoil writes over all memory of a disk's lists, and behind their ends.
func spoil(d impl.Disk) {
	for _, list := range [][]string{d.Blocks, d.Saved} {
		list = list[:cap(list)]
		for i := range list {
			list[i] = "spoilt"
		}
	}
	cache := d.Cache[:cap(d.Cache)]
	for i := range cache {
		cache[i] = impl.Pending{At: 99, Data: "spoilt"}
	}
}

func TestP1DisksStayAsTheyWere(t *testing.T) {
	for seed := range 600 {
		s := stream(seed)
		drawn := newShadow(3)
		for range int(s.next()) % 20 {
			drawn.do(someAct(&s, 3))
		}
		d, a, whole := roomy(drawn.disk(), someAct(&s, 3))
		was := whole()
		impl.DiskOK(d)
		impl.DiskRead(d, 1)
		impl.DiskSame(d, d)
		x, code := impl.DiskStep(d, a)
		if whole() != was {
			t.Fatalf("DiskStep of %s, %d, makes %s of %s", actText(a), code, whole(), was)
		}
		spoil(x)
		if whole() != was {
			t.Fatalf("what DiskStep answers to %s, %d, is its argument's memory", actText(a), code)
		}
		y, again := impl.DiskStep(d, a)
		want := diskText(y)
		if drawn.do(a) != again || want != diskText(drawn.disk()) {
			t.Fatalf("DiskStep of %s is %s, %d, once its first answer is spoilt", actText(a), want, again)
		}
		spoil(d)
		clear(a.Keep)
		if diskText(y) != want {
			t.Fatalf("what DiskStep answers to %s, %d, is its argument's memory", actText(a), again)
		}
	}
}

func TestP1NoTwoListsOfADiskShareMemory(t *testing.T) {
	start := ran(t, 2, write(0, "a"), syncAct, saveAct, write(1, "b"))
	var disks []impl.Disk
	for _, kind := range allKinds {
		x, _ := impl.DiskStep(start, impl.DiskAct{Kind: kind, Data: "x"})
		y, _, _ := impl.DiskRun(2, []impl.DiskAct{write(0, "a"), syncAct, saveAct, write(1, "b"), {Kind: kind, Data: "x"}})
		disks = append(disks, x, y)
	}
	for i, d := range disks {
		saved := fmt.Sprint(d.Saved)
		for j := range d.Blocks {
			d.Blocks[j] = "spoilt"
		}
		_ = append(d.Blocks, "spoilt")
		if fmt.Sprint(d.Saved) != saved {
			t.Errorf("disk %d has one memory for Blocks and Saved", i)
		}
	}
}

func TestP1ActsOfARunStayAsTheyWere(t *testing.T) {
	for seed := range 100 {
		s := stream(seed)
		var acts []impl.DiskAct
		for range 30 {
			acts = append(acts, someAct(&s, 4))
		}
		was := fmt.Sprint(acts)
		part := acts[:20]
		d, codes, code := impl.DiskRun(4, part)
		if fmt.Sprint(acts) != was || code != impl.OK {
			t.Fatalf("DiskRun changes its acts, %d", code)
		}
		e, more, _ := impl.DiskRun(4, part)
		want := diskText(e) + fmt.Sprint(more)
		spoil(d)
		clear(codes[:cap(codes)])
		clear(acts)
		if diskText(e)+fmt.Sprint(more) != want {
			t.Fatal("an answer of DiskRun is another's memory, or an argument's")
		}
	}
	d, _ := impl.NewDisk(3)
	e, _ := impl.NewDisk(3)
	spoil(d)
	readsAs(t, "another new disk", e, "", "", "")
}

// everyDiskCall tells what each function of the disk answers to inputs drawn from a seed, wrong ones among them.
func everyDiskCall(seed stream) string {
	s := seed
	blocks := []int{1, 2, 3, 64, 0, 65}[s.next()%6]
	var acts []impl.DiskAct
	for range int(s.next()) % 40 {
		acts = append(acts, someAct(&s, max(blocks, 1)))
	}
	d, codes, code := impl.DiskRun(blocks, acts)
	out := []string{diskText(d), fmt.Sprint(codes, code, impl.DiskOK(d))}
	n, code := impl.NewDisk(blocks)
	out = append(out, diskText(n), fmt.Sprint(code))
	text, code := impl.DiskRead(d, int(s.next())%4-1)
	out = append(out, text, fmt.Sprint(code))
	x, code := impl.DiskStep(d, someAct(&s, max(blocks, 1)))
	out = append(out, diskText(x), fmt.Sprint(code))
	same, code := impl.DiskSame(d, x)
	return strings.Join(append(out, fmt.Sprint(same, code)), "\n")
}

func TestP1AlikeArgumentsHaveAlikeDisks(t *testing.T) {
	alikeAnswers(t, everyDiskCall)
}

func TestP1ManyDisksAtOnce(t *testing.T) {
	alikeAtOnce(t, everyDiskCall)
}
