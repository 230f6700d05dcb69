package tests

import (
	"fmt"
	"math/bits"
	"slices"
	"testing"

	"loop.example/g00257/impl"
)

// aged is a disk as it once was, with what was synced to it last.
type aged struct {
	disk  impl.Disk
	epoch int
	root  string
	files []impl.File
}

// kept is a volume whose register is kept by a service: write i of it is the register of Epoch i + 1, its Tag the beginning of the Root.
type kept struct {
	service impl.Service
	now     aged
	ever    []aged   // all that the disk once was
	roots   []string // of each write
	known   []int    // what was acknowledged when each read began
}

func tagOf(root string) int { return numberIn(root[:2]) }

func newKept(t *testing.T, replicas, blocks int) *kept {
	t.Helper()
	d := formatted(t, blocks)
	k := &kept{service: newService(t, replicas)}
	k.stands(aged{d, 1, rootOn(t, d, 1), nil})
	k.tells(t)
	return k
}

func (k *kept) stands(x aged) {
	k.now = x
	k.ever = append(k.ever, x)
}

// tells begins the write of what stands on the disk.
func (k *kept) tells(t *testing.T) {
	t.Helper()
	k.service = serving(t, k.service, begin(tagOf(k.now.root)))
	k.roots = append(k.roots, k.now.root)
	if len(k.roots) != k.now.epoch || len(k.service.Writes) != k.now.epoch {
		t.Fatalf("%d writes at Epoch %d", len(k.service.Writes), k.now.epoch)
	}
}

func (k *kept) idle() bool {
	return k.service.Writes[len(k.service.Writes)-1].Ended != -1
}

// syncs has files on the disk, and not yet in the register.
func (k *kept) syncs(t *testing.T, files []impl.File) {
	t.Helper()
	acts, root, code := impl.SyncPlan(sealKey, k.now.disk, files)
	if code != impl.OK {
		t.Fatalf("no room for %.200s: %d", filesText(files), code)
	}
	k.stands(aged{stepped(t, k.now.disk, acts...), k.now.epoch + 1, root, files})
}

// cuts breaks a sync off: what stands there then is what was there before, or all of it.
func (k *kept) cuts(t *testing.T, files []impl.File, number int, c impl.DiskAct) {
	t.Helper()
	acts, root, code := impl.SyncPlan(sealKey, k.now.disk, files)
	if code != impl.OK {
		t.Fatalf("no room for %.200s: %d", filesText(files), code)
	}
	d := stepped(t, stepped(t, k.now.disk, acts[:number%len(acts)]...), c)
	next := aged{d, k.now.epoch, k.now.root, k.now.files}
	if newestByRule(t, sealKey, d.Blocks).Epoch == k.now.epoch+1 {
		next = aged{d, k.now.epoch + 1, root, files}
	}
	k.stands(next)
}

// forgets rolls the disk back ahead of a sync that the register was not told of.
func (k *kept) forgets() {
	for i := len(k.ever) - 1; i >= 0; i-- {
		if x := k.ever[i]; x.epoch == len(k.roots) && x.root == k.roots[x.epoch-1] {
			k.now = x
			return
		}
	}
}

// serves does one act of the replicas, and answers the read that ended by it, -1 if none did.
func (k *kept) serves(t *testing.T, a impl.QuAct) int {
	t.Helper()
	x, code := serves(t, k.service, a)
	if a.Kind == impl.QuAsk {
		k.known = append(k.known, lastAcknowledged(k.service))
	}
	k.service = x
	wantLawful(t, x, k.known)
	if a.Kind == impl.QuReply && code == impl.OK && x.Reads[a.N].Ended != -1 {
		return a.N
	}
	return -1
}

// does acts that all succeed.
func (k *kept) does(t *testing.T, acts ...impl.QuAct) {
	t.Helper()
	for _, a := range acts {
		if _, code := impl.ServiceStep(k.service, a); code != impl.OK {
			t.Fatalf("%v of %s is %d", a, serviceText(k.service), code)
		}
		k.serves(t, a)
	}
}

// register is what a read tells; it has all that was acknowledged when the read began.
func (k *kept) register(t *testing.T, read int) impl.Register {
	t.Helper()
	r := k.service.Reads[read]
	if r.Ended == -1 || r.Best.Counter < k.known[read] {
		t.Fatalf("read %d, %v, lacks %d, which was acknowledged", read, r, k.known[read])
	}
	if r.Best.Counter == 0 {
		return impl.Register{}
	}
	root := k.roots[r.Best.Counter-1]
	if tagOf(root) != r.Best.Tag {
		t.Fatalf("read %d, %v, is not of the Root %x", read, r, root)
	}
	return registerAt(r.Best.Counter, root)
}

// keepsLaw mounts all that the disk once was by what a read tells: what is as new as that shows its files, what is elder shows nothing, and so does what is of that Epoch, but was never told of.
func (k *kept) keepsLaw(t *testing.T, why string, read int) (shown, stale int) {
	t.Helper()
	r := k.register(t, read)
	if r.Counter == 0 {
		if k.known[read] != 0 {
			t.Fatalf("%s: nothing was read", why)
		}
		return 0, 0
	}
	for i, x := range k.ever {
		why := fmt.Sprintf("%s: disk %d, of Epoch %d, by read %d", why, i, x.epoch, read)
		switch {
		case x.epoch < r.Counter, x.epoch == r.Counter && x.root != r.Root:
			mountsNot(t, why, x.disk, r, impl.ErrStale)
			stale++
		case x.epoch <= r.Counter+1:
			mountsAs(t, why, x.disk, r, x.epoch, x.epoch > r.Counter, x.files)
			shown++
		}
	}
	return shown, stale
}

// lawAt asks for one Counter read, and how many disks show something by it.
func (k *kept) lawAt(t *testing.T, why string, read, counter, wantShown, wantStale int) {
	t.Helper()
	if got := k.register(t, read).Counter; got != counter {
		t.Fatalf("%s: read %d tells Counter %d, not %d", why, read, got, counter)
	}
	if shown, stale := k.keepsLaw(t, why, read); shown != wantShown || stale != wantStale {
		t.Fatalf("%s: %d disks are shown, %d are stale, not %d and %d", why, shown, stale, wantShown, wantStale)
	}
}

func TestP18TheWholeWorkedOutByHand(t *testing.T) {
	k := newKept(t, 3, 9)
	k.does(t, askAll(), reply(0, 0), reply(1, 0))
	k.lawAt(t, "nothing is acknowledged", 0, 0, 0, 0)
	k.does(t, store(0), store(1), askAll(), reply(1, 1), reply(2, 1))
	k.lawAt(t, "formatted", 1, 1, 1, 0)

	k.syncs(t, []impl.File{file("a", "one")})
	k.does(t, askAll(), reply(0, 2), reply(2, 2))
	k.lawAt(t, "a sync that the register was not told of", 2, 1, 2, 0)
	k.tells(t)
	k.does(t, save(0), save(1), save(2), store(2), askAll(), reply(0, 3), reply(1, 3), askAll(), reply(0, 4), reply(2, 4))
	k.lawAt(t, "one that is not acknowledged, and not read", 3, 1, 2, 0)
	k.lawAt(t, "one that is not acknowledged, but read", 4, 2, 1, 1)
	k.does(t, store(1), askAll(), reply(0, 5), reply(1, 5))
	k.lawAt(t, "acknowledged", 5, 2, 1, 1)

	// who is rolled back says nothing until a majority told it what is acknowledged
	k.does(t, askAll(), rollBack(1))
	if _, code := impl.ServiceStep(k.service, reply(1, 6)); code != impl.ErrAway {
		t.Fatalf("a replica that was rolled back replies: %d", code)
	}
	k.does(t, echo(1, 0), echo(1, 2), reply(0, 6), reply(1, 6))
	k.lawAt(t, "behind a roll-back", 6, 2, 1, 1)

	k.syncs(t, []impl.File{dir("d"), file("d/b", "two")})
	k.tells(t)
	k.does(t, store(0), rollBack(0), echo(0, 1), echo(0, 2), store(2), askAll(), reply(0, 7), reply(1, 7))
	k.lawAt(t, "acknowledged once, and rolled back", 7, 2, 2, 1)
	k.does(t, store(1), askAll(), reply(0, 8), reply(1, 8))
	k.lawAt(t, "acknowledged by others", 8, 3, 1, 2)

	// a sync that the register was not told of, and another in its place
	k.syncs(t, []impl.File{file("a", "lost")})
	k.forgets()
	k.syncs(t, []impl.File{file("a", "found")})
	k.does(t, askAll(), reply(0, 9), reply(2, 9))
	k.lawAt(t, "either of them may be shown", 9, 3, 3, 2)
	k.tells(t)
	k.does(t, store(0), store(2), askAll(), reply(1, 10), reply(2, 10))
	k.lawAt(t, "the register was told of one", 10, 4, 1, 4)
}

// The disk itself is rolled back: what was read tells it.
func TestP18ADiskThatIsRolledBack(t *testing.T) {
	k := newKept(t, 5, 12)
	k.does(t, store(0), store(1), store(2))
	for i := range 5 {
		k.now.disk = stepped(t, k.now.disk, saveAct)
		saved := k.now
		k.syncs(t, imageFiles(60+30*i, i))
		k.tells(t)
		k.does(t, store((i)%5), store((i+2)%5), store((i+3)%5), askAll(), reply((i+1)%5, i), reply((i+3)%5, i), reply((i+4)%5, i))
		r := k.register(t, i)
		if r.Counter != i+2 {
			t.Fatalf("sync %d: Counter %d is read", i, r.Counter)
		}
		mountsAs(t, "as new as what was read", k.now.disk, r, i+2, false, imageFiles(60+30*i, i))
		back := stepped(t, k.now.disk, rollbackAct)
		mountsNot(t, "rolled back", back, r, impl.ErrStale)
		elder := registerAt(saved.epoch, saved.root)
		mountsAs(t, "by what was read before", back, elder, saved.epoch, false, saved.files)
		k.keepsLaw(t, "behind a roll-back", i)
	}
}

// Whoever acknowledged it, whoever is rolled back and told of it again, and whoever replies.
func TestP18EveryMajority(t *testing.T) {
	start := newKept(t, 1, 9)
	start.syncs(t, imageFiles(70, 1))
	start.syncs(t, imageFiles(90, 2))
	reads := 0
	for _, n := range []int{1, 2, 3, 4, 5} {
		for writers := range uint(1) << n {
			if 2*bits.OnesCount(writers) <= n {
				continue
			}
			for readers := range uint(1) << n {
				if 2*bits.OnesCount(readers) <= n {
					continue
				}
				for back := range n + 1 {
					k := &kept{service: newService(t, n), ever: start.ever}
					for i, x := range start.ever {
						k.service = serving(t, k.service, begin(tagOf(x.root)))
						k.roots = append(k.roots, x.root)
						for j := range n {
							if writers>>j&1 == 1 || i < 2 {
								k.does(t, store(j))
							}
						}
						if i == 1 {
							for j := range n {
								k.does(t, save(j))
							}
						}
					}
					if n > 2 && back < n {
						k.does(t, rollBack(back))
						for j := range n {
							if j != back && k.service.Replicas[back].Mute {
								k.does(t, echo(back, j))
							}
						}
					}
					k.does(t, askAll())
					for j := range n {
						if readers>>j&1 == 1 && k.service.Reads[0].Ended == -1 {
							k.does(t, reply(j, 0))
						}
					}
					if r := k.register(t, 0); r.Counter != 3 || k.known[0] != 3 {
						t.Fatalf("of %d replicas %b wrote, %d was rolled back, %b read: Counter %d", n, writers, back, readers, r.Counter)
					}
					if reads++; reads%29 == 0 {
						k.lawAt(t, fmt.Sprintf("of %d replicas %b wrote, %d was rolled back, %b read", n, writers, back, readers), 0, 3, 1, 2)
					}
				}
			}
		}
	}
}

// someService draws acts of the replicas, those that bring a write or a read on more often; writes begin by syncs alone.
func (k *kept) someService(s *stream) impl.QuAct {
	i, reads := int(s.next())%len(k.service.Replicas), len(k.service.Reads)
	for range 3 {
		if i = (i + 1) % len(k.service.Replicas); !k.service.Replicas[i].Mute {
			break
		}
	}
	switch n := s.next(); {
	case n < 60 && !k.idle():
		return store(i)
	case n < 120 && reads > 0 && k.service.Reads[reads-1].Ended == -1:
		return reply(i, reads-1)
	}
	if a := someQuAct(s, k.service); a.Kind != impl.QuBegin {
		return a
	}
	return store(i)
}

// someWhole draws syncs, power cuts, roll-backs of replicas and reads, and looks at the law behind each read that ended.
func someWhole(t *testing.T, s *stream, why string, replicas, blocks int, look func(k *kept, read int)) *kept {
	t.Helper()
	k := newKept(t, replicas, blocks)
	for k.service.Time < lastTime {
		pending := k.now.epoch > len(k.roots)
		switch n := s.next(); {
		case n < 60 && pending && k.idle():
			k.tells(t)
		case n < 75 && pending && k.idle():
			k.forgets()
		case n < 50 && !pending && k.idle():
			k.syncs(t, someFiles(s, 60))
		case n < 65 && !pending && k.idle():
			c := crash(int(s.next())-20, s.next() < 150, s.next() < 150, s.next() < 150)
			k.cuts(t, someFiles(s, 60), int(s.next()), c)
		default:
			if read := k.serves(t, k.someService(s)); read >= 0 {
				look(k, read)
			}
		}
	}
	return k
}

func TestP18WhateverIsDone(t *testing.T) {
	for replicas := 1; replicas <= 7; replicas++ {
		var shown, stale, reads, epochs int
		for seed := range 30 {
			s := stream(40000 + 100*replicas + seed)
			why := fmt.Sprintf("%d replicas, seed %d", replicas, seed)
			k := someWhole(t, &s, why, replicas, 14, func(k *kept, read int) {
				x, y := k.keepsLaw(t, why, read)
				shown, stale, reads = shown+x, stale+y, reads+1
			})
			epochs += k.now.epoch
		}
		if reads < 50 || shown < 80 || stale < 200 || epochs < 100 {
			t.Errorf("of %d replicas: %d reads, %d disks shown, %d stale, %d Epochs", replicas, reads, shown, stale, epochs)
		}
	}
}

// Whoever has all that ever stood on the disk may put it together anew, block by block: by what a read tells nothing elder is shown.
func TestP18BlocksThatArePutTogetherAnew(t *testing.T) {
	shown, refused := 0, 0
	for seed := range 14 {
		s := stream(43000 + seed)
		someWhole(t, &s, "put together", 1+seed%7, 8, func(k *kept, read int) {
			r := k.register(t, read)
			if r.Counter == 0 {
				return
			}
			for range 12 {
				d := impl.Disk{Blocks: slices.Clone(k.ever[max(0, len(k.ever)-1-int(s.next())%3)].disk.Blocks)}
				for range int(s.next()) % 4 {
					at := int(s.next()) % 8
					d.Blocks[at] = k.ever[int(s.next())%len(k.ever)].disk.Blocks[at]
				}
				mountKeepsToRule(t, "put together", d, r)
				m, code := impl.MountVolume(sealKey, d, r)
				if code != impl.OK {
					refused++
					continue
				}
				shown++
				if !slices.ContainsFunc(k.ever, func(x aged) bool {
					return x.epoch >= r.Counter && x.epoch == m.Opened.Epoch && x.root == m.Opened.Root && filesText(x.files) == filesText(m.Opened.Files)
				}) {
					t.Fatalf("seed %d: by Counter %d %.300s is shown", seed, r.Counter, mountedText(m))
				}
			}
		})
	}
	if shown < 100 || refused < 100 {
		t.Errorf("%d disks are shown, %d refused", shown, refused)
	}
}
