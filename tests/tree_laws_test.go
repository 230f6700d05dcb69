package tests

import (
	"crypto/sha256"
	"fmt"
	"maps"
	"slices"
	"strings"
	"testing"

	"loop.example/g00257/impl"
)

const mostLeaves = 32

func hashByLibrary(parts ...string) string {
	sum := sha256.Sum256([]byte(strings.Join(parts, "")))
	return string(sum[:])
}

func leafOf(version, k int) impl.Leaf {
	return impl.Leaf{Version: version, Sum: hashByLibrary(string([]byte{byte(k)}))}
}

// squareLeaves have the Versions 0, 7, 28, 63 and so on.
func squareLeaves(n int) []impl.Leaf {
	var out []impl.Leaf
	for i := range n {
		out = append(out, leafOf(7*i*i, i))
	}
	return out
}

func someLeaf(s *stream) impl.Leaf {
	return impl.Leaf{Version: wordEdges[int(s.next())%len(wordEdges)], Sum: s.text(32)}
}

func someLeaves(s *stream, n int) []impl.Leaf {
	var out []impl.Leaf
	for range n {
		out = append(out, someLeaf(s))
	}
	return out
}

func leafByRule(x impl.Leaf) string { return hashByLibrary("\x00", fourBytes(x.Version), x.Sum) }

func nodeByRule(ahead, behind string) string { return hashByLibrary("\x01", ahead, behind) }

// wayDown tells the turns from the top to a place: a to the first half, which is the greater one, b to the rest.
func wayDown(at, n int) string {
	way := ""
	for n > 1 {
		first := n - n/2
		if at < first {
			way, n = way+"a", first
		} else {
			way, at, n = way+"b", at-first, n/2
		}
	}
	return way
}

// grove is what a tree should be, kept as the plainest thing: the root of every node, by the way down to it.
type grove map[string]string

func groveOf(list []impl.Leaf) grove {
	g := grove{}
	if len(list) == 0 {
		g[""] = hashByLibrary("\x02")
	}
	for at, x := range list {
		g[wayDown(at, len(list))] = leafByRule(x)
	}
	for turns := 6; turns > 0; turns-- {
		for _, way := range slices.Collect(maps.Keys(g)) {
			if up, first := strings.CutSuffix(way, "a"); first && len(way) == turns {
				g[up] = nodeByRule(g[up+"a"], g[up+"b"])
			}
		}
	}
	return g
}

func (g grove) proof(way string) []string {
	var out []string
	for len(way) > 0 {
		up := way[:len(way)-1]
		beside := map[byte]string{'a': "b", 'b': "a"}[way[len(way)-1]]
		out = append(out, g[up+beside])
		way = up
	}
	return out
}

func leafRoot(t *testing.T, list []impl.Leaf) string {
	t.Helper()
	root, code := impl.LeafRoot(list)
	if code != impl.OK || len(root) != 32 {
		t.Fatalf("LeafRoot of %d leaves is %x, %d", len(list), root, code)
	}
	return root
}

func proved(t *testing.T, list []impl.Leaf, at int) []string {
	t.Helper()
	proof, code := impl.ProveLeaf(list, at)
	if code != impl.OK {
		t.Fatalf("ProveLeaf of %d of %d leaves is %x, %d", at, len(list), proof, code)
	}
	return proof
}

func changedLeaf(t *testing.T, list []impl.Leaf, at int, x impl.Leaf) []impl.Leaf {
	t.Helper()
	next, code := impl.ChangeLeaf(list, at, x)
	want := slices.Concat(list[:at], []impl.Leaf{x}, list[min(at+1, len(list)):])
	if code != impl.OK || !slices.Equal(next, want) {
		t.Fatalf("ChangeLeaf of %d of %d leaves by %x is %x, %d", at, len(list), x, next, code)
	}
	return next
}

func leads(t *testing.T, why string, x impl.Leaf, at, size int, proof []string, want string) {
	t.Helper()
	if root, code := impl.RootOf(x, at, size, proof); root != want || code != impl.OK {
		t.Fatalf("%s: RootOf of %d of %d leaves is %x, %d, not %x", why, at, size, root, code, want)
	}
}

func leadsElsewhere(t *testing.T, why string, x impl.Leaf, at, size int, proof []string, not string) {
	t.Helper()
	if root, code := impl.RootOf(x, at, size, proof); root == not || len(root) != 32 || code != impl.OK {
		t.Fatalf("%s: RootOf of %d of %d leaves is %x, %d", why, at, size, root, code)
	}
}

// bigLists hold lists of all sizes, of several kinds.
func bigLists() [][]impl.Leaf {
	s := stream(111)
	var out [][]impl.Leaf
	for n := range mostLeaves + 1 {
		same := slices.Repeat([]impl.Leaf{leafOf(1, 1)}, n)
		out = append(out, squareLeaves(n), someLeaves(&s, n), someLeaves(&s, n), same)
	}
	return out
}

func TestP11TreesWorkedOutElsewhere(t *testing.T) {
	for n, want := range map[int]string{
		0:  "dbc1b4c900ffe48d575b5da5c638040125f65db0fe3e24494b76ea986457d986",
		1:  "0d6245329e061aed8d32ccf7714e7ce09ec299ba45bf063ace259518aca57ed7",
		2:  "9f87693e3ff3e6fedc03845f13c89816a7ad4f0ed400adf85cd72f4740ba93a3",
		3:  "44807ee309023224159308123a49585cdaa6d8cf5d57a016be182837bcc6e151",
		5:  "5f5705c2cb29dab48aa8e086d7ee114f60167cbf630bcb7363a57b5413c32794",
		6:  "0e0ff02c7874cfd34632d0a104f774bd5a4cf82b59d8b36579a755051d74323f",
		11: "1cce16b7ff37fab71e4b5d85a5209687d022172b760a0e4ee1d64436f358af71",
		21: "92937e2c7f97b09647afa20b4086dce933f07284c32a1480c5a547a3f82efaee",
		31: "b16bc8aca1ed3a9c12152e268c5842b35b047739c7882996150509ee34cd856d",
		32: "b54468234aa3cb90114aea4a47ebf921d8939f7f150d23fa6d79c38c870ad43d",
	} {
		if root := leafRoot(t, squareLeaves(n)); root != unhex(t, want) {
			t.Errorf("LeafRoot of %d leaves is %x", n, root)
		}
	}
	for at, want := range map[int][]string{
		5:  {"943f81c7a1ac60fe4e3d54e253539fef3cce5c8ce758ed16ceb353c345cbb74b", "44807ee309023224159308123a49585cdaa6d8cf5d57a016be182837bcc6e151", "eb580d213856c1d9701967f20a8c1a92a598b2a1672060f171ca22ebb29e4ff6"},
		10: {"377aa79c22b04d5db434a89132b97dd27f5e73c0e787031eb8cee9c5213fd6a6", "1dd963ce0ff84e1d35c7d824e32cf00b309704b75acae6b4d179b6cb90f4a1fd", "0e0ff02c7874cfd34632d0a104f774bd5a4cf82b59d8b36579a755051d74323f"},
	} {
		proof := proved(t, squareLeaves(11), at)
		if got := fmt.Sprintf("%x", proof); got != "["+strings.Join(want, " ")+"]" {
			t.Errorf("ProveLeaf of %d of 11 leaves is %s", at, got)
		}
	}
}

// The first half is the greater one: of three the first two stand together, of five the first three.
func TestP11ShapesOfSmallTrees(t *testing.T) {
	list := squareLeaves(9)
	var l []string
	for _, x := range list {
		l = append(l, leafByRule(x))
	}
	n := nodeByRule
	two, three, four := n(l[0], l[1]), n(n(l[0], l[1]), l[2]), n(n(l[0], l[1]), n(l[2], l[3]))
	five := n(three, n(l[3], l[4]))
	for i, want := range []string{
		hashByLibrary("\x02"), l[0], two, three, four, five,
		n(three, n(n(l[3], l[4]), l[5])),
		n(four, n(n(l[4], l[5]), l[6])),
		n(four, n(n(l[4], l[5]), n(l[6], l[7]))),
		n(five, n(n(l[5], l[6]), n(l[7], l[8]))),
	} {
		if root := leafRoot(t, list[:i]); root != want {
			t.Errorf("LeafRoot of %d leaves is %x, not %x", i, root, want)
		}
	}
	for _, c := range []struct {
		at, size int
		want     []string
	}{
		{0, 1, nil}, {0, 2, []string{l[1]}}, {1, 2, []string{l[0]}},
		{0, 3, []string{l[1], l[2]}}, {1, 3, []string{l[0], l[2]}}, {2, 3, []string{two}},
		{0, 5, []string{l[1], l[2], n(l[3], l[4])}}, {2, 5, []string{two, n(l[3], l[4])}}, {3, 5, []string{l[4], three}}, {4, 5, []string{l[3], three}},
		{2, 6, []string{two, n(n(l[3], l[4]), l[5])}}, {5, 6, []string{n(l[3], l[4]), three}},
		{4, 9, []string{l[3], three, n(n(l[5], l[6]), n(l[7], l[8]))}}, {8, 9, []string{l[7], n(l[5], l[6]), five}},
	} {
		if proof := proved(t, list[:c.size], c.at); !slices.Equal(proof, c.want) {
			t.Errorf("ProveLeaf of %d of %d leaves is %x, not %x", c.at, c.size, proof, c.want)
		}
	}
}

func TestP11TreesAreAsTheRuleHasThem(t *testing.T) {
	for _, list := range bigLists() {
		g := groveOf(list)
		if root := leafRoot(t, list); root != g[""] {
			t.Fatalf("LeafRoot of %d leaves is %x, not %x", len(list), root, g[""])
		}
		for at, x := range list {
			way := wayDown(at, len(list))
			want := g.proof(way)
			if proof := proved(t, list, at); !slices.Equal(proof, want) || len(proof) != len(way) {
				t.Fatalf("ProveLeaf of %d of %d leaves is %x, not %x", at, len(list), proof, want)
			}
			leads(t, "the rule's proof", x, at, len(list), want, g[""])
		}
	}
}

func TestP11WhatIsProvedLeadsToTheRoot(t *testing.T) {
	for _, list := range bigLists() {
		root := leafRoot(t, list)
		for at, x := range list {
			leads(t, "a leaf as it is", x, at, len(list), proved(t, list, at), root)
		}
	}
}

func TestP11ALoneLeafHasAnEmptyProof(t *testing.T) {
	s := stream(112)
	for range 20 {
		x := someLeaf(&s)
		if proof := proved(t, []impl.Leaf{x}, 0); len(proof) != 0 {
			t.Fatalf("ProveLeaf of a lone leaf is %x", proof)
		}
		for _, proof := range [][]string{nil, {}} {
			leads(t, "a lone leaf", x, 0, 1, proof, leafRoot(t, []impl.Leaf{x}))
		}
	}
}

// otherLeaves may stand where x stood; one is the same.
func otherLeaves(s *stream, x impl.Leaf) []impl.Leaf {
	out := []impl.Leaf{x, {Version: x.Version, Sum: s.text(32)}, {Version: x.Version, Sum: withBit(x.Sum, int(s.next()))}, {Version: 4294967295, Sum: x.Sum}}
	if x.Version < 4294967295 {
		out = append(out, impl.Leaf{Version: x.Version + 1, Sum: x.Sum}, impl.Leaf{Version: x.Version + 1, Sum: s.text(32)})
	}
	return out
}

func TestP11AnotherLeafLeadsToTheRootOfWhatThereIsThen(t *testing.T) {
	s := stream(113)
	for _, list := range bigLists() {
		root := leafRoot(t, list)
		for at, x := range list {
			proof := proved(t, list, at)
			for _, y := range otherLeaves(&s, x) {
				next := changedLeaf(t, list, at, y)
				after := leafRoot(t, next)
				leads(t, "another leaf", y, at, len(list), proof, after)
				if (after == root) != (x == y) {
					t.Fatalf("the root with %x in the place of %x is %x, it was %x", y, x, after, root)
				}
				if !slices.Equal(proved(t, next, at), proof) {
					t.Fatalf("another leaf at %d of %d changes its own proof", at, len(list))
				}
			}
		}
	}
}

// What was proved of a place holds no more once another leaf is a different one.
func TestP11AnotherLeafChangesTheProofsOfOthers(t *testing.T) {
	for _, n := range []int{2, 3, 4, 5, 7, 8, 13, 31, 32} {
		list := squareLeaves(n)
		for at := range list {
			next := changedLeaf(t, list, at, leafOf(100000, 99))
			root := leafRoot(t, next)
			for other, x := range next {
				leads(t, "behind a change", x, other, n, proved(t, next, other), root)
				if other != at {
					leadsElsewhere(t, "an elder proof", x, other, n, proved(t, list, other), root)
				}
			}
		}
	}
}

func TestP11LeavesPutBehindTheOthers(t *testing.T) {
	s := stream(114)
	for range 8 {
		var list []impl.Leaf
		seen := []string{leafRoot(t, nil)}
		for n := range mostLeaves {
			x := someLeaf(&s)
			list = changedLeaf(t, list, n, x)
			root := leafRoot(t, list)
			if root != groveOf(list)[""] || slices.Contains(seen, root) {
				t.Fatalf("LeafRoot of %d leaves, one behind the other, is %x", n+1, root)
			}
			seen = append(seen, root)
			for at, x := range list {
				leads(t, "put behind the others", x, at, n+1, proved(t, list, at), root)
			}
		}
		if next, code := impl.ChangeLeaf(list, mostLeaves, someLeaf(&s)); len(next) != 0 || code != impl.ErrFull {
			t.Fatalf("ChangeLeaf behind %d leaves is %d leaves, %d", len(list), len(next), code)
		}
	}
}

// Who keeps a root alone can follow each change by a proof.
func TestP11ARootThatFollowsChanges(t *testing.T) {
	s := stream(115)
	for _, n := range []int{1, 2, 3, 6, 9, 16, 17, 31, 32} {
		list := someLeaves(&s, n)
		root, stale, changed := leafRoot(t, list), 0, 0
		for range 100 {
			at, x := int(s.next())%n, someLeaf(&s)
			proof := proved(t, list, at)
			leads(t, "what there was", list[at], at, n, proof, root)
			next, code := impl.ChangeLeaf(list, at, x)
			if x.Version < list[at].Version {
				stale++
				if len(next) != 0 || code != impl.ErrStale {
					t.Fatalf("an elder leaf is %d leaves, %d", len(next), code)
				}
				continue
			}
			changed++
			root, _ = impl.RootOf(x, at, n, proof)
			list = changedLeaf(t, list, at, x)
			if root != leafRoot(t, list) {
				t.Fatalf("a change of %d of %d leaves leads to %x", at, n, root)
			}
		}
		if stale == 0 || changed == 0 {
			t.Errorf("of %d leaves %d changes are stale, %d are not", n, stale, changed)
		}
	}
}

func TestP11OtherLeavesAndProofsLeadElsewhere(t *testing.T) {
	for n := 1; n <= mostLeaves; n++ {
		list := squareLeaves(n)
		root := leafRoot(t, list)
		for at, x := range list {
			proof := proved(t, list, at)
			for bit := range 32 {
				leadsElsewhere(t, "another Version", impl.Leaf{Version: x.Version ^ 1<<bit, Sum: x.Sum}, at, n, proof, root)
			}
			for bit := 0; bit < 256; bit += 5 {
				leadsElsewhere(t, "another Sum", impl.Leaf{Version: x.Version, Sum: withBit(x.Sum, bit)}, at, n, proof, root)
			}
			for i := range proof {
				for bit := 0; bit < 256; bit += 15 {
					other := slices.Clone(proof)
					other[i] = withBit(other[i], bit)
					leadsElsewhere(t, "another proof", x, at, n, other, root)
				}
				if i > 0 {
					other := slices.Clone(proof)
					other[i], other[i-1] = other[i-1], other[i]
					leadsElsewhere(t, "a proof in another order", x, at, n, other, root)
				}
			}
		}
	}
}

// A proof is of its place alone: at another one it is too long, too short, or leads elsewhere.
func TestP11ProofsOfOtherPlaces(t *testing.T) {
	for n := 2; n <= mostLeaves; n++ {
		list := squareLeaves(n)
		root := leafRoot(t, list)
		for at, x := range list {
			proof := proved(t, list, at)
			for other := range list {
				if other == at {
					continue
				}
				if len(wayDown(other, n)) == len(proof) {
					leadsElsewhere(t, "another place", x, other, n, proof, root)
				} else if got, code := impl.RootOf(x, other, n, proof); got != "" || code != impl.ErrForm {
					t.Fatalf("a proof of %d at %d of %d leaves is %x, %d", at, other, n, got, code)
				}
			}
		}
	}
}

// No two of these lists have one root: each is another one by a number of leaves, a Version, a Sum, or an order.
func TestP11RootsTellListsApart(t *testing.T) {
	seen := map[string]string{}
	apart := func(what string, list []impl.Leaf) {
		root := leafRoot(t, list)
		if other, there := seen[root]; there {
			t.Fatalf("%s and %s have one root", what, other)
		}
		seen[root] = what
	}
	apart("none", nil)
	for n := 1; n <= mostLeaves; n++ {
		list := squareLeaves(n)
		apart(fmt.Sprint(n, " leaves"), list)
		for at := range list {
			version, sum := slices.Clone(list), slices.Clone(list)
			version[at].Version = 4294967295
			sum[at].Sum = strings.Repeat("\x00", 32)
			apart(fmt.Sprint("a Version at ", at, " of ", n), version)
			apart(fmt.Sprint("a Sum at ", at, " of ", n), sum)
			if at > 0 {
				turned := slices.Clone(list)
				turned[at-1], turned[at] = turned[at], turned[at-1]
				apart(fmt.Sprint("two turned at ", at, " of ", n), turned)
			}
		}
		apart(fmt.Sprint("the same ", n, " times"), slices.Repeat([]impl.Leaf{leafOf(5, 200)}, n))
		above := impl.Leaf{Version: n, Sum: leafRoot(t, list)}
		apart(fmt.Sprint("a leaf of the root of ", n), []impl.Leaf{above})
	}
}

func TestP11SumsOfBlocks(t *testing.T) {
	seen := map[string]bool{}
	for place := range mostLeaves {
		for _, version := range wordEdges {
			for _, size := range []int{0, 1, 16, 50, 51, 64, 80, 199, 200} {
				sealed := longText[:size]
				sum, code := impl.BlockSum(place, version, sealed)
				if sum != hashByLibrary("block", fourBytes(place), fourBytes(version), sealed) || code != impl.OK || seen[sum] {
					t.Fatalf("BlockSum of %d, %d and %d bytes is %x, %d", place, version, size, sum, code)
				}
				seen[sum] = true
			}
		}
	}
	for size := range 201 {
		s := stream(size)
		sealed := s.text(size)
		if sum, code := impl.BlockSum(size%mostLeaves, size, sealed); sum != hashByLibrary("block", fourBytes(size%mostLeaves), fourBytes(size), sealed) || code != impl.OK {
			t.Fatalf("BlockSum of %d bytes is %x, %d", size, sum, code)
		}
	}
	for _, c := range []struct {
		place, version int
		sealed, want   string
	}{
		{0, 0, "", "6b7233247abe13001287f7829c11fec904649240ef4917939010ca32f0588f6f"},
		{17, 65538, "sealed", "a82f7987754710e09f3e5bb30c31a8e30962b1cf7e76a992c5fabf8bd95f75f6"},
		{31, 4294967295, longText[:200], "d34f0c209100d691cc94786c735e3a5a858b3bf98ad20d92eee3cbc4b2b3e07e"},
	} {
		if sum, code := impl.BlockSum(c.place, c.version, c.sealed); sum != unhex(t, c.want) || code != impl.OK {
			t.Errorf("BlockSum of %d, %d and %q is %x, %d", c.place, c.version, c.sealed, sum, code)
		}
	}
}

// sealedLeaf is the leaf of a text that is sealed at its place.
func sealedLeaf(t *testing.T, place, version int, text string) impl.Leaf {
	t.Helper()
	nonce, _ := impl.SealNonce(place, version)
	sum, code := impl.BlockSum(place, version, sealed(t, sealKey, nonce, "block", text))
	if code != impl.OK {
		t.Fatalf("BlockSum is %d", code)
	}
	return impl.Leaf{Version: version, Sum: sum}
}

func TestP11LeavesOfSealedBlocks(t *testing.T) {
	for _, n := range []int{1, 2, 5, 16, 31, 32} {
		var list []impl.Leaf
		for place := range n {
			list = changedLeaf(t, list, place, sealedLeaf(t, place, 1, fmt.Sprint("text ", place)))
		}
		first := leafRoot(t, list)
		for place := range n {
			proof := proved(t, list, place)
			next := changedLeaf(t, list, place, sealedLeaf(t, place, 2, "another"))
			root := leafRoot(t, next)
			leads(t, "as it was", list[place], place, n, proof, first)
			leads(t, "another", next[place], place, n, proof, root)
			leadsElsewhere(t, "rolled back", list[place], place, n, proof, root)
		}
	}
}
