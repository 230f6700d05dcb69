package tests

import (
	"fmt"
	"math"
	"slices"
	"strings"
	"testing"

	"loop.example/g00257/impl"
)

func write(at int, data string) impl.DiskAct {
	return impl.DiskAct{Kind: impl.DkWrite, At: at, Data: data}
}

func tamper(at int, data string) impl.DiskAct {
	return impl.DiskAct{Kind: impl.DkTamper, At: at, Data: data}
}

func crash(torn int, keep ...bool) impl.DiskAct {
	return impl.DiskAct{Kind: impl.DkCrash, Keep: keep, Torn: torn}
}

var (
	syncAct     = impl.DiskAct{Kind: impl.DkSync}
	saveAct     = impl.DiskAct{Kind: impl.DkSave}
	rollbackAct = impl.DiskAct{Kind: impl.DkRollback}
)

// diskText tells all of a disk; nil and empty lists are told alike.
func diskText(d impl.Disk) string {
	var cache []string
	for _, w := range d.Cache {
		cache = append(cache, fmt.Sprintf("%d:%q", w.At, w.Data))
	}
	return fmt.Sprintf("%q %v %q", d.Blocks, cache, d.Saved)
}

func actText(a impl.DiskAct) string {
	return fmt.Sprintf("{kind %d, at %d, %q, kept %v, torn %d}", a.Kind, a.At, a.Data, a.Keep, a.Torn)
}

func ran(t *testing.T, blocks int, acts ...impl.DiskAct) impl.Disk {
	t.Helper()
	d, codes, code := impl.DiskRun(blocks, acts)
	if code != impl.OK || len(codes) != len(acts) {
		t.Fatalf("DiskRun of %d blocks and %d acts is %v, %d", blocks, len(acts), codes, code)
	}
	for i, c := range codes {
		if c != impl.OK {
			t.Fatalf("act %d, %s, is %d", i, actText(acts[i]), c)
		}
	}
	return d
}

func stepped(t *testing.T, d impl.Disk, acts ...impl.DiskAct) impl.Disk {
	t.Helper()
	for i, a := range acts {
		next, code := impl.DiskStep(d, a)
		if code != impl.OK || !impl.DiskOK(next) {
			t.Fatalf("act %d, kind %d, is %d", i, a.Kind, code)
		}
		d = next
	}
	return d
}

func reads(t *testing.T, d impl.Disk) []string {
	t.Helper()
	out := make([]string, len(d.Blocks))
	for at := range out {
		text, code := impl.DiskRead(d, at)
		if code != impl.OK {
			t.Fatalf("DiskRead of block %d is %d", at, code)
		}
		out[at] = text
	}
	return out
}

func readsAs(t *testing.T, why string, d impl.Disk, want ...string) {
	t.Helper()
	if got := reads(t, d); !slices.Equal(got, want) {
		t.Errorf("%s: the blocks read %q, not %q", why, got, want)
	}
}

func standsAs(t *testing.T, why string, d impl.Disk, want ...string) {
	t.Helper()
	if !slices.Equal(d.Blocks, want) || len(d.Cache) != 0 {
		t.Errorf("%s: the blocks are %q, not %q, with %d writes in the Cache", why, d.Blocks, want, len(d.Cache))
	}
}

// shadow does by the document's words what a disk does: bytes in place of texts, and the Cache gone through from its end for every read.
type shadow struct {
	blocks, saved [][]byte
	cache         []impl.Pending
}

func newShadow(blocks int) *shadow {
	return &shadow{blocks: make([][]byte, blocks)}
}

func (s *shadow) read(at int) string {
	for i := len(s.cache) - 1; i >= 0; i-- {
		if s.cache[i].At == at {
			return s.cache[i].Data
		}
	}
	return string(s.blocks[at])
}

func (s *shadow) fault(a impl.DiskAct) int {
	switch {
	case a.Kind < impl.DkWrite || a.Kind > impl.DkTamper:
		return impl.ErrForm
	case a.Kind == impl.DkRollback && s.saved == nil:
		return impl.ErrNone
	case a.Kind != impl.DkWrite && a.Kind != impl.DkTamper:
		return impl.OK
	case a.At < 0 || a.At >= len(s.blocks):
		return impl.ErrRange
	case len(a.Data) > 200:
		return impl.ErrLong
	case a.Kind == impl.DkWrite && len(s.cache) == 4096:
		return impl.ErrFull
	}
	return impl.OK
}

func (s *shadow) do(a impl.DiskAct) int {
	if code := s.fault(a); code != impl.OK {
		return code
	}
	switch a.Kind {
	case impl.DkWrite:
		s.cache = append(s.cache, impl.Pending{At: a.At, Data: a.Data})
	case impl.DkTamper:
		s.blocks[a.At] = []byte(a.Data)
	case impl.DkSync:
		s.crash(math.MaxInt, nil, 0)
	case impl.DkCrash:
		s.crash(0, a.Keep, a.Torn)
	case impl.DkSave:
		s.saved = slices.Clone(s.blocks)
	case impl.DkRollback:
		s.blocks, s.cache = slices.Clone(s.saved), nil
	}
	return impl.OK
}

// crash keeps the first kept writes whatever their flags say.
func (s *shadow) crash(kept int, keep []bool, torn int) {
	unkept := 0
	for i, w := range s.cache {
		if i < kept || i < len(keep) && keep[i] {
			s.blocks[w.At] = []byte(w.Data)
			continue
		}
		unkept++
		if unkept == 1 {
			s.blocks[w.At] = tornByRule(s.blocks[w.At], w.Data, torn)
		}
	}
	s.cache = nil
}

// tornByRule says of each byte where it is from.
func tornByRule(old []byte, data string, torn int) []byte {
	var out []byte
	for i := 0; i < len(data) && i < torn; i++ {
		out = append(out, data[i])
	}
	for i := len(out); i < len(old); i++ {
		out = append(out, old[i])
	}
	return out
}

func (s *shadow) disk() impl.Disk {
	d := impl.Disk{Cache: s.cache}
	for _, b := range s.blocks {
		d.Blocks = append(d.Blocks, string(b))
	}
	for _, b := range s.saved {
		d.Saved = append(d.Saved, string(b))
	}
	return d
}

// someAct draws acts of all kinds, writes more often, and now and then a wrong one.
func someAct(s *stream, blocks int) impl.DiskAct {
	sizes := []int{0, 1, 2, 3, 5, 8, 50, 199, 200, 200, 201}
	a := impl.DiskAct{
		Kind: []int{1, 1, 1, 1, 1, 1, 1, 2, 3, 3, 4, 5, 6, 7, 0, -1}[s.next()%16],
		At:   int(s.next()) % blocks,
		Data: s.text(sizes[int(s.next())%len(sizes)]),
		Torn: []int{-1, 0, 1, 2, 4, 7, 100, 199, 200, 201, math.MinInt, math.MaxInt}[s.next()%12],
	}
	if s.next() < 10 {
		a.At = []int{-1, blocks, blocks + 1, math.MinInt, math.MaxInt}[s.next()%5]
	}
	for range int(s.next()) % 10 {
		a.Keep = append(a.Keep, s.next() < 150)
	}
	return a
}

func someBlocks(s *stream) int {
	return []int{1, 2, 3, 4, 7, 63, 64}[s.next()%7]
}

func TestP6DisksAreAsTheRuleHasThem(t *testing.T) {
	for seed := range 400 {
		s := stream(seed)
		blocks := someBlocks(&s)
		var acts []impl.DiskAct
		var codes []int
		want := newShadow(blocks)
		d, _ := impl.NewDisk(blocks)
		for range []int{0, 1, 20, 119, 120}[seed%5] {
			a := someAct(&s, blocks)
			acts, codes = append(acts, a), append(codes, want.do(a))
			next, code := impl.DiskStep(d, a)
			if code != codes[len(codes)-1] || diskText(next) != diskText(want.disk()) {
				t.Fatalf("DiskStep of %s at %s is %d, %s, not %d, %s", actText(a), diskText(d), code, diskText(next), codes[len(codes)-1], diskText(want.disk()))
			}
			d = next
			for at := range blocks {
				if text, code := impl.DiskRead(d, at); text != want.read(at) || code != impl.OK {
					t.Fatalf("DiskRead of block %d is %q, %d, not %q", at, text, code, want.read(at))
				}
			}
		}
		whole, got, code := impl.DiskRun(blocks, acts)
		if code != impl.OK || !slices.Equal(got, codes) || diskText(whole) != diskText(d) || !impl.DiskOK(whole) {
			t.Fatalf("DiskRun is %s, %v, %d, not %s, %v", diskText(whole), got, code, diskText(d), codes)
		}
	}
}

func TestP6WhatIsReadWasWrittenLast(t *testing.T) {
	s := stream(61)
	for _, blocks := range []int{1, 2, 5, 64} {
		d, _ := impl.NewDisk(blocks)
		last := make([]string, blocks)
		for i := range 300 {
			at, data := int(s.next())%blocks, s.text([]int{0, 1, 3, 200}[s.next()%4])
			d = stepped(t, d, write(at, data))
			last[at] = data
			if i%7 == 3 {
				d = stepped(t, d, saveAct)
			}
			readsAs(t, "written", d, last...)
			if i%50 == 49 {
				d = stepped(t, d, syncAct)
				standsAs(t, "synced", d, last...)
				readsAs(t, "synced", d, last...)
			}
		}
	}
}

func TestP6NothingIsSureAheadOfASync(t *testing.T) {
	d := ran(t, 2, write(0, "old"), syncAct, write(0, "new"), write(1, "one"), write(0, "newer"))
	if want := `["old" ""] [0:"new" 1:"one" 0:"newer"] []`; diskText(d) != want {
		t.Errorf("the disk is %s, not %s", diskText(d), want)
	}
	readsAs(t, "waiting", d, "newer", "one")
	standsAs(t, "synced", stepped(t, d, syncAct), "newer", "one")
	standsAs(t, "synced twice", stepped(t, d, syncAct, syncAct), "newer", "one")
	standsAs(t, "a last write that is empty", stepped(t, d, write(1, ""), syncAct), "newer", "")
	readsAs(t, "a last write that is empty", stepped(t, d, write(0, "")), "", "one")
}

func TestP6WhatIsTorn(t *testing.T) {
	for _, c := range []struct {
		old, data string
		torn      int
		want      string
	}{
		{"abcdef", "XYZ", 0, "abcdef"}, {"abcdef", "XYZ", -1, "abcdef"}, {"abcdef", "XYZ", math.MinInt, "abcdef"},
		{"abcdef", "XYZ", 1, "Xbcdef"}, {"abcdef", "XYZ", 2, "XYcdef"}, {"abcdef", "XYZ", 3, "XYZdef"},
		{"abcdef", "XYZ", 4, "XYZdef"}, {"abcdef", "XYZ", 6, "XYZdef"}, {"abcdef", "XYZ", math.MaxInt, "XYZdef"},
		{"abc", "XYZ", 0, "abc"}, {"abc", "XYZ", 2, "XYc"}, {"abc", "XYZ", 3, "XYZ"}, {"abc", "XYZ", 4, "XYZ"},
		{"ab", "WXYZ", 0, "ab"}, {"ab", "WXYZ", 1, "Wb"}, {"ab", "WXYZ", 2, "WX"}, {"ab", "WXYZ", 3, "WXY"}, {"ab", "WXYZ", 4, "WXYZ"}, {"ab", "WXYZ", 5, "WXYZ"},
		{"", "XYZ", -1, ""}, {"", "XYZ", 0, ""}, {"", "XYZ", 2, "XY"}, {"", "XYZ", 3, "XYZ"}, {"", "XYZ", 9, "XYZ"},
		{"abc", "", 0, "abc"}, {"abc", "", 1, "abc"}, {"abc", "", -1, "abc"}, {"", "", 0, ""}, {"", "", 5, ""},
	} {
		d := ran(t, 2, write(1, c.old), syncAct, write(1, c.data))
		for _, keep := range [][]bool{nil, {}, {false}, {false, true}, {false, false, true}} {
			standsAs(t, fmt.Sprintf("%q over %q, torn behind %d", c.data, c.old, c.torn), stepped(t, d, crash(c.torn, keep...)), "", c.want)
		}
		for _, keep := range [][]bool{{true}, {true, false}, {true, true}} {
			standsAs(t, "kept", stepped(t, d, crash(c.torn, keep...)), "", c.data)
		}
	}
}

func TestP6TornBlocksOfAllSizes(t *testing.T) {
	s := stream(62)
	for _, oldSize := range []int{0, 1, 99, 100, 101, 199, 200} {
		for _, size := range []int{0, 1, 99, 100, 101, 199, 200} {
			old, data := s.text(oldSize), s.text(size)
			d := ran(t, 1, write(0, old), syncAct, write(0, data))
			for torn := -2; torn <= 203; torn++ {
				standsAs(t, fmt.Sprint("torn behind ", torn), stepped(t, d, crash(torn)), string(tornByRule([]byte(old), data, torn)))
			}
		}
	}
}

func TestP6WhatStoodThereWasKeptAhead(t *testing.T) {
	d := ran(t, 2, write(0, "sure first"), syncAct, write(0, "AAAAAA"), write(0, "BBBB"), write(0, "CC"))
	for _, c := range []struct {
		keep []bool
		want string
	}{
		{nil, "Aure first"},
		{[]bool{true}, "BAAAAA"},
		{[]bool{true, true}, "CBBB"},
		{[]bool{true, true, true}, "CC"},
		{[]bool{true, true, true, false}, "CC"},
		{[]bool{false, true}, "BBBB"},
		{[]bool{false, false, true}, "CC"},
		{[]bool{true, false, true}, "CC"},
		{[]bool{true, false, false}, "BAAAAA"},
		{[]bool{false, true, false}, "BBBB"},
	} {
		standsAs(t, fmt.Sprint("kept ", c.keep), stepped(t, d, crash(1, c.keep...)), c.want, "")
	}
}

// flags are all lists of n flags.
func flags(n int) [][]bool {
	out := [][]bool{nil}
	for range n {
		var longer [][]bool
		for _, f := range out {
			longer = append(longer, append(slices.Clone(f), false), append(slices.Clone(f), true))
		}
		out = longer
	}
	return out
}

func TestP6EveryCrashOfFewWrites(t *testing.T) {
	texts := []string{"pq", "rstu", "", "vwx"}
	for places := range 16 {
		d := ran(t, 3, write(0, "abc"), write(1, "de"), write(2, "fgh"), syncAct)
		for i, text := range texts {
			d = stepped(t, d, write(places>>i&1, text))
		}
		for n := range 6 {
			for _, keep := range flags(n) {
				for torn := -1; torn <= 5; torn++ {
					want := newShadow(0)
					for _, b := range d.Blocks {
						want.blocks = append(want.blocks, []byte(b))
					}
					want.cache = d.Cache
					want.crash(0, keep, torn)
					x := stepped(t, d, crash(torn, keep...))
					standsAs(t, fmt.Sprint("crash ", places, keep, torn), x, want.disk().Blocks...)
				}
			}
		}
	}
}

// holdsAfterCrash looks at the promise itself: what no write went to is as it was, and at most one block is neither that nor what a write would have made.
func holdsAfterCrash(t *testing.T, d, x impl.Disk) {
	t.Helper()
	torn := 0
	for at, was := range d.Blocks {
		may := []string{was}
		for _, w := range d.Cache {
			if w.At == at {
				may = append(may, w.Data)
			}
		}
		if slices.Contains(may, x.Blocks[at]) {
			continue
		}
		torn++
		if len(may) == 1 {
			t.Fatalf("block %d is sure, %q, and %q behind a crash", at, was, x.Blocks[at])
		}
	}
	if torn > 1 {
		t.Fatalf("%d blocks are torn by one crash of %s", torn, diskText(d))
	}
	if !slices.Equal(d.Saved, x.Saved) || len(x.Cache) != 0 || len(x.Blocks) != len(d.Blocks) {
		t.Fatalf("a crash makes %s of %s", diskText(x), diskText(d))
	}
}

func TestP6ACrashChangesNothingThatIsSure(t *testing.T) {
	s := stream(63)
	for range 3000 {
		blocks := someBlocks(&s)
		d, _ := impl.NewDisk(blocks)
		for range 1 + int(s.next())%12 {
			d = stepped(t, d, write(int(s.next())%blocks, s.text(4+int(s.next())%197)))
			if s.next() < 40 {
				d = stepped(t, d, saveAct, syncAct)
			}
		}
		var keep []bool
		for range int(s.next()) % 14 {
			keep = append(keep, s.next() < 128)
		}
		x := stepped(t, d, crash(int(s.next())-20, keep...))
		holdsAfterCrash(t, d, x)
		again := stepped(t, x, crash(3))
		if diskText(again) != diskText(x) {
			t.Fatalf("a second crash makes %s of %s", diskText(again), diskText(x))
		}
	}
}

func TestP6ACrashThatKeepsAllIsASync(t *testing.T) {
	s := stream(64)
	for n := range 40 {
		d, _ := impl.NewDisk(4)
		keep := make([]bool, n)
		for i := range keep {
			d, keep[i] = stepped(t, d, write(int(s.next())%4, s.text(int(s.next())%9))), true
		}
		want := diskText(stepped(t, d, syncAct))
		for _, more := range [][]bool{nil, {true}, {false, false}} {
			if x := stepped(t, d, crash(1, append(slices.Clone(keep), more...)...)); diskText(x) != want {
				t.Errorf("a crash that keeps all of %d writes is %s, not %s", n, diskText(x), want)
			}
		}
	}
}

// fullDisk has MaxList writes in its Cache: number i is i's digits, to block i modulo 64.
func fullDisk(t *testing.T) impl.Disk {
	t.Helper()
	d, _ := impl.NewDisk(impl.MaxBlocks)
	for i := range impl.MaxList {
		d.Cache = append(d.Cache, impl.Pending{At: i % 64, Data: fmt.Sprint(i)})
	}
	return d
}

func TestP6AFullCache(t *testing.T) {
	d := fullDisk(t)
	var last, first, torn []string
	for at := range 64 {
		last = append(last, fmt.Sprint(4096-64+at))
		first = append(first, fmt.Sprint(at))
		torn = append(torn, fmt.Sprint(at))
	}
	torn[0] = "64"
	readsAs(t, "full", d, last...)
	standsAs(t, "synced", stepped(t, d, syncAct), last...)
	all := slices.Repeat([]bool{true}, impl.MaxList)
	standsAs(t, "all kept", stepped(t, d, crash(0, all...)), last...)
	standsAs(t, "64 kept", stepped(t, d, crash(0, all[:64]...)), first...)
	standsAs(t, "64 kept, and one torn", stepped(t, d, crash(2, all[:64]...)), torn...)
	all[impl.MaxList-1] = false
	last[63] = "4031"
	standsAs(t, "all kept but the last", stepped(t, d, crash(-1, all...)), last...)
	last[63] = "4091"
	standsAs(t, "the last one torn", stepped(t, d, crash(3, all...)), last...)
}

func TestP6SavesAndRollbacks(t *testing.T) {
	d := ran(t, 2, write(0, "one"), syncAct, write(0, "two"), write(1, "x"), saveAct)
	if want := `["one" ""] [0:"two" 1:"x"] ["one" ""]`; diskText(d) != want {
		t.Errorf("a save of what waits: %s, not %s", diskText(d), want)
	}
	back := stepped(t, d, rollbackAct)
	standsAs(t, "rolled back", back, "one", "")
	readsAs(t, "rolled back", back, "one", "")
	for _, acts := range [][]impl.DiskAct{{syncAct}, {crash(1)}, {crash(0, true, true)}, {tamper(0, "bad")}, {tamper(1, "bad"), syncAct}, {rollbackAct}, {write(1, "y")}, {syncAct, write(0, "three"), syncAct}} {
		behind := stepped(t, d, acts...)
		if !slices.Equal(behind.Saved, d.Saved) {
			t.Errorf("what was saved is %q behind %v", behind.Saved, acts)
		}
		if x := stepped(t, behind, rollbackAct); diskText(x) != diskText(back) {
			t.Errorf("a roll-back behind %v is %s", acts, diskText(x))
		}
	}
	later := stepped(t, d, syncAct, saveAct, tamper(0, "bad"))
	standsAs(t, "tampered", later, "bad", "x")
	standsAs(t, "saved again", stepped(t, later, rollbackAct), "two", "x")
	empty := ran(t, 1, saveAct, write(0, "a"), syncAct, rollbackAct)
	if want := `[""] [] [""]`; diskText(empty) != want {
		t.Errorf("rolled back to empty blocks: %s, not %s", diskText(empty), want)
	}
}

func TestP6Tampering(t *testing.T) {
	d := ran(t, 3, write(0, "zero"), write(1, "one"), syncAct, saveAct, write(1, "new"), tamper(1, "bad"), tamper(0, "evil"), tamper(2, ""))
	if want := `["evil" "bad" ""] [1:"new"] ["zero" "one" ""]`; diskText(d) != want {
		t.Errorf("tampered: %s, not %s", diskText(d), want)
	}
	readsAs(t, "tampered", d, "evil", "new", "")
	standsAs(t, "synced", stepped(t, d, syncAct), "evil", "new", "")
	standsAs(t, "torn over what was tampered with", stepped(t, d, crash(1)), "evil", "nad", "")
	longest := strings.Repeat("t", impl.MaxBlock)
	standsAs(t, "rolled back", stepped(t, d, tamper(2, longest), rollbackAct), "zero", "one", "")
	readsAs(t, "the longest", stepped(t, d, tamper(2, longest)), "evil", "new", longest)
}

func same(t *testing.T, a, b impl.Disk, want bool) {
	t.Helper()
	for _, pair := range [][2]impl.Disk{{a, b}, {b, a}} {
		if got, code := impl.DiskSame(pair[0], pair[1]); got != want || code != impl.OK {
			t.Errorf("DiskSame of %s and %s is %v, %d", diskText(pair[0]), diskText(pair[1]), got, code)
		}
	}
}

func TestP6DisksThatReadTheSame(t *testing.T) {
	d := ran(t, 3, write(0, "a"), write(2, "c"), syncAct, write(1, "b"), write(2, "C"))
	same(t, d, d, true)
	same(t, d, stepped(t, d, syncAct), true)
	same(t, d, stepped(t, d, saveAct), true)
	same(t, d, ran(t, 3, write(2, "x"), write(2, "C"), write(1, "b"), write(0, "a")), true)
	same(t, d, stepped(t, d, tamper(2, "not read")), true)
	same(t, d, stepped(t, d, crash(0)), false)
	same(t, d, stepped(t, d, tamper(0, "read")), false)
	same(t, d, stepped(t, d, write(0, "")), false)
	same(t, d, stepped(t, d, write(1, "")), false)
	same(t, d, stepped(t, d, write(2, "C\x00")), false)
	same(t, ran(t, 1), ran(t, 1, saveAct), true)
	same(t, ran(t, 1), ran(t, 2), false)
	same(t, ran(t, 64), ran(t, 63), false)
	same(t, ran(t, 64), ran(t, 64, write(63, "x")), false)
	same(t, ran(t, 2, write(0, "a"), write(1, "b")), ran(t, 2, write(0, "b"), write(1, "a")), false)
	s := stream(65)
	for range 300 {
		a, b := newShadow(2), newShadow(2)
		for range 3 {
			a.do(write(int(s.next())%2, s.text(1)[:int(s.next())%2]))
			b.do(write(int(s.next())%2, s.text(1)[:int(s.next())%2]))
		}
		same(t, a.disk(), b.disk(), a.read(0) == b.read(0) && a.read(1) == b.read(1))
	}
}
