package tests

import (
	"fmt"
	"math"
	"slices"
	"strings"
	"testing"

	"loop.example/g00257/impl"
)

// noLeafPlaces are numbers that no place of so many leaves has, the nearest and the farthest ones, and such as would be right if they were cut.
func noLeafPlaces(n int) []int {
	return []int{-1, n, n + 1, -2, -n, -n - 1, 256 + n/2, -256 + n/2, 1<<32 + n/2, -1<<32 + n/2, 1 << 32, math.MinInt, math.MinInt + 1, math.MaxInt - 1, math.MaxInt}
}

func wrongLeaves() []impl.Leaf {
	right := leafOf(5, 5)
	out := []impl.Leaf{{}, {Version: 5}, {Version: -1, Sum: longText}}
	for _, version := range noWord {
		out = append(out, impl.Leaf{Version: version, Sum: right.Sum})
	}
	for _, sum := range []string{"", "s", right.Sum[:31], right.Sum + "s", right.Sum + right.Sum, longText[:16], longText[:impl.MaxText], longText} {
		out = append(out, impl.Leaf{Version: 5, Sum: sum})
	}
	return out
}

// manyLeaves are right, but too many.
func manyLeaves(n int) []impl.Leaf { return slices.Repeat([]impl.Leaf{leafOf(5, 5)}, n) }

// wrongLeafLists are within MaxList; one leaf, at any place, was made wrong, or they are too many.
func wrongLeafLists() [][]impl.Leaf {
	var out [][]impl.Leaf
	for _, n := range []int{1, 2, 3, 8, 31, 32} {
		for _, at := range []int{0, (n - 1) / 2, n - 1} {
			for _, x := range wrongLeaves() {
				list := manyLeaves(n)
				list[at] = x
				out = append(out, list)
			}
		}
		out = append(out, make([]impl.Leaf, n))
	}
	for _, n := range []int{33, 34, 64, 1000, impl.MaxList - 1, impl.MaxList} {
		wrong := manyLeaves(n)
		wrong[n-1] = impl.Leaf{Version: -1, Sum: longText}
		out = append(out, manyLeaves(n), wrong, make([]impl.Leaf, n))
	}
	return out
}

func longLeafLists() [][]impl.Leaf {
	var out [][]impl.Leaf
	for _, n := range []int{impl.MaxList + 1, impl.MaxList + 2, 70000} {
		wrong := manyLeaves(n)
		wrong[0] = impl.Leaf{Version: -1, Sum: longText}
		out = append(out, manyLeaves(n), wrong, make([]impl.Leaf, n))
	}
	return out
}

func noSum(t *testing.T, place, version int, sealed string, want int) {
	t.Helper()
	if sum, code := impl.BlockSum(place, version, sealed); sum != "" || code != want {
		t.Errorf("BlockSum of %d, %d and %d bytes is %x, %d, not %d", place, version, len(sealed), sum, code, want)
	}
}

func noRoot(t *testing.T, list []impl.Leaf, want int) {
	t.Helper()
	if root, code := impl.LeafRoot(list); root != "" || code != want {
		t.Errorf("LeafRoot of %d leaves, %.100x, is %x, %d, not %d", len(list), list, root, code, want)
	}
}

func noProof(t *testing.T, list []impl.Leaf, at, want int) {
	t.Helper()
	if proof, code := impl.ProveLeaf(list, at); len(proof) != 0 || code != want {
		t.Errorf("ProveLeaf of %d of %d leaves, %.100x, is %x, %d, not %d", at, len(list), list, proof, code, want)
	}
}

func noWay(t *testing.T, why string, x impl.Leaf, at, size int, proof []string, want int) {
	t.Helper()
	if root, code := impl.RootOf(x, at, size, proof); root != "" || code != want {
		t.Errorf("%s: RootOf of %.100x at %d of %d by %d roots is %x, %d, not %d", why, x, at, size, len(proof), root, code, want)
	}
}

func noChange(t *testing.T, why string, list []impl.Leaf, at int, x impl.Leaf, want int) {
	t.Helper()
	if next, code := impl.ChangeLeaf(list, at, x); len(next) != 0 || code != want {
		t.Errorf("%s: ChangeLeaf of %d of %d leaves by %.100x is %d leaves, %d, not %d", why, at, len(list), x, len(next), code, want)
	}
}

func TestP1BlocksThatHaveNoSum(t *testing.T) {
	if impl.MaxLeaves != mostLeaves || impl.MaxBlock != 200 {
		t.Error("MaxLeaves and MaxBlock are", impl.MaxLeaves, impl.MaxBlock)
	}
	tooMany := []string{longText[:201], longText[:202], longText[:256], longText[:impl.MaxText-1], longText[:impl.MaxText]}
	fits := []string{"", "x", longText[:199], longText[:200]}
	long := []string{longText, longText + longText}
	for _, text := range append(slices.Clone(tooMany), fits...) {
		for _, place := range noLeafPlaces(mostLeaves) {
			for _, version := range append(slices.Clone(noWord), wordEdges...) {
				noSum(t, place, version, text, impl.ErrRange)
			}
		}
		for _, version := range noWord {
			for place := range mostLeaves {
				noSum(t, place, version, text, impl.ErrRange)
			}
		}
	}
	for _, place := range []int{0, 1, 30, 31} {
		for _, version := range wordEdges {
			for _, text := range tooMany {
				noSum(t, place, version, text, impl.ErrBad)
			}
			for _, text := range long {
				noSum(t, place, version, text, impl.ErrLong)
				noSum(t, -1, version, text, impl.ErrLong)
				noSum(t, mostLeaves, version, text, impl.ErrLong)
				noSum(t, place, -1, text, impl.ErrLong)
				noSum(t, math.MinInt, math.MaxInt, text, impl.ErrLong)
			}
		}
	}
}

func TestP1RightLeaves(t *testing.T) {
	lists := append(bigLists(), nil, []impl.Leaf{}, manyLeaves(32))
	for _, version := range wordEdges {
		for _, sum := range []string{strings.Repeat("\x00", 32), strings.Repeat("\xff", 32), longText[:32]} {
			lists = append(lists, []impl.Leaf{{Version: version, Sum: sum}})
		}
	}
	for _, list := range lists {
		if !impl.LeavesOK(list) {
			t.Errorf("LeavesOK of %d leaves, %.200x, is false", len(list), list)
		}
		if root := leafRoot(t, list); root != groveOf(list)[""] {
			t.Errorf("LeafRoot of %d leaves, %.200x, is %x", len(list), list, root)
		}
	}
	for _, list := range append(wrongLeafLists(), longLeafLists()...) {
		if impl.LeavesOK(list) {
			t.Errorf("LeavesOK of %d leaves, %.200x, is true", len(list), list)
		}
	}
}

// Leaves that are not right are told ahead of places that are not there.
func TestP1LeavesThatAreNotRight(t *testing.T) {
	for _, list := range wrongLeafLists() {
		n := len(list)
		noRoot(t, list, impl.ErrBad)
		for _, at := range append(noLeafPlaces(n), 0, n/2, n-1) {
			noProof(t, list, at, impl.ErrBad)
			noChange(t, "leaves that are not right", list, at, leafOf(6, 6), impl.ErrBad)
			noChange(t, "leaves that are not right, by one that is not", list, at, impl.Leaf{}, impl.ErrBad)
		}
	}
	for _, list := range longLeafLists() {
		n := len(list)
		noRoot(t, list, impl.ErrLong)
		for _, at := range append(noLeafPlaces(n), 0, 31, 32, n/2, n-1) {
			noProof(t, list, at, impl.ErrLong)
			noChange(t, "too long", list, at, leafOf(6, 6), impl.ErrLong)
			noChange(t, "too long, by one that is not right", list, at, impl.Leaf{Version: -1, Sum: longText}, impl.ErrLong)
			noChange(t, "too long, by an elder one", list, at, leafOf(0, 6), impl.ErrLong)
		}
	}
}

func TestP1PlacesThatHaveNoProof(t *testing.T) {
	for n := range mostLeaves + 1 {
		list := squareLeaves(n)
		for _, at := range noLeafPlaces(n) {
			if at < 0 || at >= n {
				noProof(t, list, at, impl.ErrRange)
			}
		}
		for at := n; at < n+40; at++ {
			noProof(t, list, at, impl.ErrRange)
			noProof(t, list, -1-at, impl.ErrRange)
		}
	}
	for _, at := range []int{0, 1, -1, 31, math.MinInt, math.MaxInt} {
		noProof(t, nil, at, impl.ErrRange)
		noProof(t, []impl.Leaf{}, at, impl.ErrRange)
	}
}

// wrongProofs are made of a right one by a root that has not 32 bytes, at any place, and one more.
func wrongProofs(proof []string) [][]string {
	var out [][]string
	root := hashByLibrary("root")
	for _, wrong := range []string{"", "r", root[:31], root + "r", root + root, longText[:impl.MaxText], longText} {
		for i := range proof {
			other := slices.Clone(proof)
			other[i] = wrong
			out = append(out, other)
		}
		out = append(out, append(slices.Clone(proof), wrong), append([]string{wrong}, proof...))
	}
	return out
}

func TestP1ProofsThatAreTooShortOrTooLong(t *testing.T) {
	root := hashByLibrary("root")
	for n := 1; n <= mostLeaves; n++ {
		list := squareLeaves(n)
		for at, x := range list {
			proof := proved(t, list, at)
			for size := range len(proof) {
				noWay(t, "too short", x, at, n, proof[:size], impl.ErrForm)
				noWay(t, "too short at its beginning", x, at, n, proof[size+1:], impl.ErrForm)
			}
			for more := 1; more < 5; more++ {
				noWay(t, "too long", x, at, n, slices.Concat(proof, slices.Repeat([]string{root}, more)), impl.ErrForm)
				noWay(t, "too long at its beginning", x, at, n, slices.Concat(slices.Repeat([]string{root}, more), proof), impl.ErrForm)
			}
			for _, all := range []int{100, impl.MaxList - 1, impl.MaxList} {
				noWay(t, "far too long", x, at, n, slices.Repeat([]string{root}, all), impl.ErrForm)
			}
			if len(proof) > 0 {
				noWay(t, "nothing", x, at, n, nil, impl.ErrForm)
				noWay(t, "nothing", x, at, n, []string{}, impl.ErrForm)
			}
		}
	}
}

func TestP1PlacesAndSizesThatLeadNowhere(t *testing.T) {
	root := hashByLibrary("root")
	x := leafOf(5, 5)
	proofs := [][]string{nil, {root}, {root, root}, slices.Repeat([]string{root}, 5), slices.Repeat([]string{root}, impl.MaxList)}
	for _, proof := range proofs {
		for _, size := range []int{0, -1, 33, 34, -31, -32, 64, 256 + 5, 1<<32 + 5, -1<<32 + 5, math.MinInt, math.MaxInt} {
			for _, at := range []int{0, 1, 4, 31, 32, -1, size - 1, size, math.MinInt, math.MaxInt} {
				noWay(t, "a size that there is not", x, at, size, proof, impl.ErrRange)
			}
		}
		for size := 1; size <= mostLeaves; size++ {
			for _, at := range noLeafPlaces(size) {
				if at < 0 || at >= size {
					noWay(t, "a place that there is not", x, at, size, proof, impl.ErrRange)
				}
			}
		}
	}
}

// What is not right is told ahead of places that are not there, these ahead of how long a proof is.
func TestP1LeavesAndProofsThatLeadNowhere(t *testing.T) {
	root := hashByLibrary("root")
	places := [][2]int{{0, 0}, {-1, 5}, {5, 5}, {0, 33}, {0, -1}, {math.MinInt, math.MaxInt}}
	for _, n := range []int{1, 2, 3, 5, 31, 32} {
		list := squareLeaves(n)
		for _, at := range []int{0, (n - 1) / 2, n - 1} {
			proof := proved(t, list, at)
			for _, place := range append(places, [2]int{at, n}) {
				for _, x := range wrongLeaves() {
					noWay(t, "a leaf that is not right", x, place[0], place[1], proof, impl.ErrBad)
					noWay(t, "a leaf that is not right, a proof too long", x, place[0], place[1], append(slices.Clone(proof), root), impl.ErrBad)
					noWay(t, "a leaf that is not right, without a proof", x, place[0], place[1], nil, impl.ErrBad)
				}
				for _, wrong := range wrongProofs(proof) {
					noWay(t, "a proof that is not right", list[at], place[0], place[1], wrong, impl.ErrBad)
					noWay(t, "neither is right", impl.Leaf{}, place[0], place[1], wrong, impl.ErrBad)
				}
			}
		}
	}
	for _, size := range []int{impl.MaxList + 1, impl.MaxList + 2, 70000} {
		for _, proof := range [][]string{slices.Repeat([]string{root}, size), make([]string, size)} {
			for _, place := range append(places, [2]int{0, 1}, [2]int{31, 32}) {
				noWay(t, "far too long", leafOf(5, 5), place[0], place[1], proof, impl.ErrLong)
				noWay(t, "far too long, a leaf that is not right", impl.Leaf{Version: -1, Sum: longText}, place[0], place[1], proof, impl.ErrLong)
			}
		}
	}
}

func TestP1LeavesThatCanNotBePut(t *testing.T) {
	for n := range mostLeaves + 1 {
		list := squareLeaves(n)
		for _, x := range wrongLeaves() {
			for _, at := range append(noLeafPlaces(n), 0, n/2, n-1) {
				noChange(t, "a leaf that is not right", list, at, x, impl.ErrBad)
			}
		}
		for _, at := range noLeafPlaces(n) {
			if at < 0 || at > n {
				noChange(t, "a place that there is not", list, at, leafOf(4294967295, 6), impl.ErrRange)
				noChange(t, "a place that there is not, by an elder one", list, at, leafOf(0, 6), impl.ErrRange)
			}
		}
	}
	full := manyLeaves(32)
	for _, version := range wordEdges {
		noChange(t, "a full list", full, 32, leafOf(version, 6), impl.ErrFull)
		noChange(t, "behind a full list", full, 33, leafOf(version, 6), impl.ErrRange)
		changedLeaf(t, full[:31], 31, leafOf(version, 6))
		changedLeaf(t, nil, 0, leafOf(version, 6))
		changedLeaf(t, []impl.Leaf{}, 0, leafOf(version, 6))
		noChange(t, "just behind the place behind the others", full[:31], 32, leafOf(version, 6), impl.ErrRange)
	}
}

func TestP1VersionsAroundTheOneThere(t *testing.T) {
	for _, n := range []int{1, 2, 3, 8, 31, 32} {
		for _, at := range []int{0, (n - 1) / 2, n - 1} {
			for _, there := range wordEdges {
				list := squareLeaves(n)
				list[at].Version = there
				for _, version := range append([]int{there - 1, there, there + 1}, wordEdges...) {
					x := leafOf(version, 6)
					switch {
					case version < 0 || version > 4294967295:
						noChange(t, "no Version", list, at, x, impl.ErrBad)
					case version < there:
						noChange(t, "an elder one", list, at, x, impl.ErrStale)
						noChange(t, "the same, but elder", list, at, impl.Leaf{Version: version, Sum: list[at].Sum}, impl.ErrStale)
					default:
						changedLeaf(t, list, at, x)
					}
				}
			}
		}
	}
	// Behind the others there is none whose Version could be higher.
	changedLeaf(t, []impl.Leaf{leafOf(4294967295, 1)}, 1, leafOf(0, 6))
}

func TestP1NoListAndAnEmptyOneAreOneTree(t *testing.T) {
	if leafRoot(t, nil) != leafRoot(t, []impl.Leaf{}) || !impl.LeavesOK(nil) || !impl.LeavesOK([]impl.Leaf{}) {
		t.Error("no leaves and an empty list of them are not the same")
	}
	x := leafOf(1, 1)
	a, _ := impl.RootOf(x, 0, 1, nil)
	b, _ := impl.RootOf(x, 0, 1, []string{})
	if a != b || len(a) != 32 {
		t.Errorf("no proof leads to %x, an empty one to %x", a, b)
	}
}

// roomyLeaves have room behind their end that nothing may be written into; the answer tells all of that memory.
func roomyLeaves(list []impl.Leaf) ([]impl.Leaf, func() string) {
	whole := append(slices.Clone(list), leafOf(98, 98), leafOf(99, 99))
	return whole[:len(list)], func() string { return fmt.Sprintf("%x", whole) }
}

func spoilLeaves(list []impl.Leaf) {
	list = list[:cap(list)]
	for i := range list {
		list[i] = impl.Leaf{Version: -9, Sum: "spoilt"}
	}
}

func TestP1LeavesStayAsTheyWere(t *testing.T) {
	for _, start := range append(bigLists(), wrongLeafLists()[:60]...) {
		n := len(start)
		for _, at := range []int{-1, 0, n / 2, n - 1, n, n + 1} {
			for _, x := range []impl.Leaf{leafOf(0, 6), leafOf(4294967295, 6), {}} {
				list, whole := roomyLeaves(start)
				was := whole()
				impl.LeavesOK(list)
				impl.LeafRoot(list)
				impl.ProveLeaf(list, at)
				next, code := impl.ChangeLeaf(list, at, x)
				if whole() != was {
					t.Fatalf("a call at %d of %d leaves, %d, makes %.300s of %.300s", at, n, code, whole(), was)
				}
				again, _ := impl.ChangeLeaf(list, at, x)
				want := fmt.Sprint(again)
				spoilLeaves(next)
				if whole() != was || fmt.Sprint(again) != want {
					t.Fatalf("what ChangeLeaf of %d of %d leaves, %d, answers is another's memory, or its argument's", at, n, code)
				}
				spoilLeaves(list)
				if fmt.Sprint(again) != want {
					t.Fatalf("what ChangeLeaf of %d of %d leaves, %d, answers is its argument's memory", at, n, code)
				}
			}
		}
	}
}

func TestP1ProofsStayAsTheyWere(t *testing.T) {
	for _, list := range bigLists() {
		n := len(list)
		for at, x := range list {
			first, again := proved(t, list, at), proved(t, list, at)
			want := slices.Clone(again)
			clear(first[:cap(first)])
			if !slices.Equal(again, want) {
				t.Fatalf("two proofs of %d of %d leaves are one memory", at, n)
			}
			whole := append(slices.Clone(again), "behind", "the end")
			was := slices.Clone(whole)
			for size := range whole {
				impl.RootOf(x, at, n, whole[:size])
			}
			if !slices.Equal(whole, was) {
				t.Fatalf("RootOf of %d of %d leaves changes its proof", at, n)
			}
		}
	}
}

// everyTreeCall tells what each function of the tree answers to inputs drawn from a seed, wrong ones among them.
func everyTreeCall(seed stream) string {
	s := seed
	list := someLeaves(&s, int(s.next())%34)
	if s.next() < 40 && len(list) > 0 {
		wrong := wrongLeaves()
		list[int(s.next())%len(list)] = wrong[int(s.next())%len(wrong)]
	}
	out := []string{fmt.Sprint(impl.LeavesOK(list))}
	for range 6 {
		at, x := int(s.next())%36-1, someLeaf(&s)
		root, bad := impl.LeafRoot(list)
		proof, none := impl.ProveLeaf(list, at)
		if len(proof) > 0 && s.next() < 60 {
			proof = proof[1:]
		}
		up, form := impl.RootOf(x, at, len(list), proof)
		next, stale := impl.ChangeLeaf(list, at, x)
		sum, wide := impl.BlockSum(at, x.Version, s.text(int(s.next())))
		out = append(out, fmt.Sprintf("%x %d %x %d %x %d %x %d %x %d", root, bad, proof, none, up, form, next, stale, sum, wide))
		if stale == impl.OK {
			list = next
		}
	}
	return strings.Join(out, "\n")
}

func TestP1AlikeArgumentsHaveAlikeTrees(t *testing.T) {
	alikeAnswers(t, everyTreeCall)
}

func TestP1ManyTreesAtOnce(t *testing.T) {
	alikeAtOnce(t, everyTreeCall)
}
