package tests

import (
	"fmt"
	"math"
	"slices"
	"strings"
	"testing"

	"loop.example/g00257/impl"
)

var (
	// noReplicaCounts hold numbers of replicas that no service has, the nearest and the farthest ones, and such as would be right if they were cut.
	noReplicaCounts = []int{0, 8, -1, 9, -7, 256 + 3, 1<<32 + 3, -1<<32 + 3, math.MinInt, math.MinInt + 1, math.MaxInt - 1, math.MaxInt}

	noScript = []int{-1, lastTime + 1, -2, lastTime + 2, -lastTime, 256 + 5, 1<<32 + 5, -1<<32 + 5, math.MinInt, math.MaxInt}

	noTags = []int{-1, lastTag + 1, -2, lastTag + 2, -lastTag, 1<<32 + 5, -1<<32 + 5, math.MinInt, math.MaxInt}
)

// busyService has n replicas, the first of which is Mute and has an echo of the last one; three writes, two of which Ended; three reads.
func busyService(n int) impl.Service {
	s := impl.Service{Time: 50}
	for i := range n {
		s.Replicas = append(s.Replicas, impl.Replica{Now: mark(2, 20), Saved: mark(1, 10+i)})
	}
	s.Replicas[0] = impl.Replica{Mute: true, Now: mark(1, 10), Saved: mark(1, 10), Echos: []int{n - 1}, Best: mark(2, 20)}
	for i := range 3 {
		s.Writes = append(s.Writes, impl.WriteOp{Mark: mark(i+1, 10*i), Acks: []int{n - 1}, Begun: 10 * (i + 1), Ended: 10*(i+1) + 5})
		s.Reads = append(s.Reads, impl.ReadOp{From: []int{n / 2}, Best: mark(2, 20), Begun: 12 * (i + 1), Ended: -1})
	}
	s.Writes[2].Ended = -1
	s.Reads[1].Ended = 40
	return s
}

// busyWith is a busy service of five replicas that was changed.
func busyWith(change func(s *impl.Service)) impl.Service {
	s := busyService(5)
	change(&s)
	return s
}

// fullService has as many writes and reads as can be.
func fullService(time int) impl.Service {
	s := impl.Service{Replicas: make([]impl.Replica, 7), Time: time}
	for i := range lastTime {
		at := min(i+1, time)
		s.Writes = append(s.Writes, impl.WriteOp{Mark: mark(i+1, lastTag), Acks: []int{0, 1, 2, 3, 4, 5, 6}, Begun: at, Ended: at})
		s.Reads = append(s.Reads, impl.ReadOp{From: []int{0, 1, 2, 3, 4, 5, 6}, Best: mark(lastTime, lastTag), Begun: at, Ended: time})
	}
	return s
}

func rightServices() []impl.Service {
	var out []impl.Service
	for n := 1; n <= 7; n++ {
		out = append(out, busyService(n), impl.Service{Replicas: make([]impl.Replica, n)}, impl.Service{Replicas: make([]impl.Replica, n), Time: lastTime})
	}
	with := func(change func(s *impl.Service)) { out = append(out, busyWith(change)) }
	for _, time := range []int{40, 41, lastTime - 1, lastTime} {
		with(func(s *impl.Service) { s.Time = time })
	}
	for _, m := range []impl.Mark{{}, mark(0, lastTag), mark(lastTime, 0), mark(lastTime, lastTag), mark(1, 1)} {
		with(func(s *impl.Service) { s.Replicas[3].Now = m })
		with(func(s *impl.Service) { s.Replicas[3].Saved = m })
		with(func(s *impl.Service) { s.Replicas[0].Best = m })
		with(func(s *impl.Service) { s.Reads[0].Best = m })
		with(func(s *impl.Service) { s.Writes[1].Mark.Tag = m.Tag })
	}
	for _, times := range [][2]int{{1, 1}, {1, 50}, {50, 50}, {25, 30}, {1, -1}, {50, -1}} {
		with(func(s *impl.Service) { s.Writes[2].Begun, s.Writes[2].Ended = times[0], times[1] })
		with(func(s *impl.Service) { s.Reads[0].Begun, s.Reads[0].Ended = times[0], times[1] })
	}
	for _, list := range [][]int{nil, {}, {0}, {4}, {0, 4}, {1, 2}, {1, 2, 3}, {0, 1, 2, 3, 4}} {
		with(func(s *impl.Service) { s.Replicas[0].Echos = list })
		with(func(s *impl.Service) { s.Replicas[3].Mute, s.Replicas[3].Echos = true, list })
		with(func(s *impl.Service) { s.Writes[1].Acks = list })
		with(func(s *impl.Service) { s.Writes[2].Acks = list })
		with(func(s *impl.Service) { s.Reads[0].From = list })
		with(func(s *impl.Service) { s.Reads[1].From = list })
	}
	with(func(s *impl.Service) { s.Writes = nil })
	with(func(s *impl.Service) { s.Writes = s.Writes[:2] })
	with(func(s *impl.Service) { s.Reads = nil })
	with(func(s *impl.Service) { s.Writes[0].Begun, s.Writes[0].Ended = 40, 50 })
	return out
}

// wrongMarks and wrongTags put into each place what stands nowhere.
func wrongMarks(out []impl.Service) []impl.Service {
	for _, n := range noScript {
		for i := range 5 {
			out = append(out,
				busyWith(func(s *impl.Service) { s.Replicas[i].Now.Counter = n }),
				busyWith(func(s *impl.Service) { s.Replicas[i].Saved.Counter = n }),
				busyWith(func(s *impl.Service) { s.Replicas[i].Best.Counter = n }))
		}
		for i := range 3 {
			out = append(out, busyWith(func(s *impl.Service) { s.Reads[i].Best.Counter = n }))
		}
	}
	for i := range 3 {
		for _, n := range append([]int{0, i, i + 2, i + 3, lastTime}, noScript...) {
			out = append(out, busyWith(func(s *impl.Service) { s.Writes[i].Mark.Counter = n }))
		}
	}
	return wrongTags(out)
}

func wrongTags(out []impl.Service) []impl.Service {
	for _, n := range noTags {
		for i := range 5 {
			out = append(out,
				busyWith(func(s *impl.Service) { s.Replicas[i].Now.Tag = n }),
				busyWith(func(s *impl.Service) { s.Replicas[i].Saved.Tag = n }),
				busyWith(func(s *impl.Service) { s.Replicas[i].Best.Tag = n }))
		}
		for i := range 3 {
			out = append(out,
				busyWith(func(s *impl.Service) { s.Writes[i].Mark.Tag = n }),
				busyWith(func(s *impl.Service) { s.Reads[i].Best.Tag = n }))
		}
	}
	return out
}

func wrongTimes(out []impl.Service) []impl.Service {
	for _, n := range append([]int{0, 1, 35, 36, 39}, noScript...) {
		out = append(out, busyWith(func(s *impl.Service) { s.Time = n }))
	}
	for _, n := range noScript {
		out = append(out, impl.Service{Replicas: make([]impl.Replica, 3), Time: n})
	}
	for i := range 3 {
		for _, n := range []int{0, -1, 51, 52, lastTime, lastTime + 1, math.MinInt, math.MaxInt} {
			out = append(out,
				busyWith(func(s *impl.Service) { s.Writes[i].Begun = n }),
				busyWith(func(s *impl.Service) { s.Reads[i].Begun = n }))
			if n != -1 {
				out = append(out,
					busyWith(func(s *impl.Service) { s.Writes[i].Ended = n }),
					busyWith(func(s *impl.Service) { s.Reads[i].Ended = n }))
			}
		}
		out = append(out,
			busyWith(func(s *impl.Service) { s.Writes[i].Ended = -2 }),
			busyWith(func(s *impl.Service) { s.Reads[i].Ended = -2 }),
			busyWith(func(s *impl.Service) { s.Writes[i].Ended = s.Writes[i].Begun - 1 }),
			busyWith(func(s *impl.Service) { s.Reads[i].Ended = s.Reads[i].Begun - 1 }))
	}
	for i := range 2 {
		out = append(out, busyWith(func(s *impl.Service) { s.Writes[i].Ended = -1 }))
		out = append(out, busyWith(func(s *impl.Service) { s.Writes[i].Ended, s.Writes[2].Ended = -1, 40 }))
	}
	return out
}

// wrongLists name replicas that are not there, name one twice, or do not rise.
func wrongLists(out []impl.Service) []impl.Service {
	lists := [][]int{{-1}, {5}, {-1, 0}, {0, 5}, {1, 0}, {1, 1}, {0, 2, 1}, {0, 1, 1}, {4, 3, 2}, {0, 1, 2, 3, 4, 5}, {0, 1, 2, 3, 4, 4}, {math.MinInt}, {math.MaxInt}, {1 << 32}, {-1 << 32}, slices.Repeat([]int{3}, impl.MaxList+1)}
	for _, list := range lists {
		out = append(out, busyWith(func(s *impl.Service) { s.Replicas[0].Echos = list }))
		for i := range 3 {
			out = append(out,
				busyWith(func(s *impl.Service) { s.Replicas[i+1].Mute, s.Replicas[i+1].Echos = true, list }),
				busyWith(func(s *impl.Service) { s.Writes[i].Acks = list }),
				busyWith(func(s *impl.Service) { s.Reads[i].From = list }))
		}
	}
	for i := 1; i < 5; i++ {
		out = append(out, busyWith(func(s *impl.Service) { s.Replicas[i].Echos = []int{0} }))
	}
	return append(out, busyWith(func(s *impl.Service) { s.Replicas[0].Mute = false }))
}

func wrongServices() []impl.Service {
	out := []impl.Service{{}, {Replicas: []impl.Replica{}}, {Time: 5}}
	for _, n := range []int{8, 9, 100, impl.MaxList + 1} {
		out = append(out, impl.Service{Replicas: make([]impl.Replica, n)}, busyService(n))
	}
	for n := 1; n < 5; n++ {
		out = append(out, busyWith(func(s *impl.Service) { s.Replicas = s.Replicas[:n] }))
	}
	reads := fullService(lastTime)
	reads.Reads = append(reads.Reads, reads.Reads[0])
	writes := fullService(lastTime)
	writes.Writes = append(writes.Writes, impl.WriteOp{Mark: mark(lastTime+1, 1), Begun: lastTime, Ended: lastTime})
	many := fullService(lastTime)
	many.Writes, many.Reads = slices.Repeat(many.Writes, 30), slices.Repeat(many.Reads, 30)
	few := impl.Service{Replicas: make([]impl.Replica, 1), Time: 1, Reads: slices.Repeat([]impl.ReadOp{{Begun: 1, Ended: -1}}, lastTime+1)}
	return wrongLists(wrongTimes(wrongMarks(append(out, reads, writes, many, few))))
}

// actsOn are acts of each kind, and of none, on replicas and with numbers that are there and that are not.
func actsOn(n int) []impl.QuAct {
	var out []impl.QuAct
	for kind := 1; kind <= 7; kind++ {
		for _, i := range []int{-1, 0, 1, n / 2, n - 1, n, math.MinInt, math.MaxInt, 1 << 32} {
			for _, k := range []int{-1, 0, 1, 2, 3, n - 1, n, lastTag, lastTag + 1, math.MinInt, math.MaxInt, 1<<32 + 1} {
				out = append(out, quAct(kind, i, k))
			}
		}
	}
	for _, kind := range []int{-1, 0, 8, 9, -7, 256 + 1, 1<<32 + 2, -1<<32 + 2, math.MinInt, math.MaxInt} {
		out = append(out, quAct(kind, 0, 0), quAct(kind, n-1, 1), quAct(kind, -1, -1), quAct(kind, n, n))
	}
	return out
}

func TestP1RightServices(t *testing.T) {
	for _, s := range append(rightServices(), fullService(1), fullService(50), fullService(lastTime)) {
		if !impl.ServiceOK(s) {
			t.Errorf("ServiceOK of %.400s is false", serviceText(s))
		}
	}
	for _, s := range wrongServices() {
		if impl.ServiceOK(s) {
			t.Errorf("ServiceOK of %.400s is true", serviceText(s))
		}
	}
}

func TestP1EveryActOnEveryService(t *testing.T) {
	for _, s := range rightServices() {
		for _, a := range actsOn(len(s.Replicas)) {
			serves(t, s, a)
		}
	}
}

func TestP1ServicesThatAreNotRight(t *testing.T) {
	acts := []impl.QuAct{begin(1), store(0), store(-1), askAll(), reply(0, 0), reply(9, 9), save(0), restart(0), rollBack(1), echo(0, 1), echo(0, 0), {}, quAct(8, 0, 0), quAct(-1, -1, -1)}
	for _, s := range wrongServices() {
		for _, a := range acts {
			if x, code := impl.ServiceStep(s, a); serviceText(x) != serviceText(impl.Service{}) || code != impl.ErrBad {
				t.Errorf("ServiceStep of %.400s and %v is %.200s, %d", serviceText(s), a, serviceText(x), code)
			}
		}
		for _, counter := range []int{0, 1, -1, 200, math.MinInt, math.MaxInt} {
			if list, code := impl.Holders(s, counter); len(list) != 0 || code != impl.ErrBad {
				t.Errorf("Holders of %.400s and %d are %v, %d", serviceText(s), counter, list, code)
			}
		}
		if fresh, code := impl.FreshReads(s); fresh || code != impl.ErrBad {
			t.Errorf("FreshReads of %.400s is %v, %d", serviceText(s), fresh, code)
		}
	}
}

// Where an act has several faults the first one that is named counts.
func TestP1FaultsOfActsInTheirOrder(t *testing.T) {
	empty, busy := newService(t, 3), busyService(3)
	late := busyService(3)
	late.Time = lastTime
	for _, c := range []struct {
		s    impl.Service
		a    impl.QuAct
		want int
	}{
		{late, quAct(0, -1, -1), impl.ErrFull}, {late, quAct(8, 0, 0), impl.ErrFull}, {late, begin(1), impl.ErrFull}, {late, store(9), impl.ErrFull}, {late, echo(0, 0), impl.ErrFull},
		{busy, quAct(0, -1, -1), impl.ErrForm}, {busy, quAct(8, 9, 9), impl.ErrForm}, {busy, quAct(impl.QuBegin, -1, -1), impl.ErrTwice}, {busy, quAct(impl.QuAsk, -1, -1), impl.OK},
		{empty, quAct(impl.QuBegin, 99, 0), impl.OK}, {empty, quAct(impl.QuAsk, 99, 99), impl.OK},
		{empty, store(3), impl.ErrRange}, {empty, store(0), impl.ErrNone}, {busy, store(3), impl.ErrRange}, {busy, store(0), impl.ErrAway},
		{serving(t, empty, restart(0)), store(0), impl.ErrNone},
		{busy, reply(3, 0), impl.ErrRange}, {busy, reply(0, 3), impl.ErrRange}, {busy, reply(0, -1), impl.ErrRange}, {busy, reply(0, 1), impl.ErrAway}, {busy, reply(1, 1), impl.ErrTwice}, {busy, reply(1, 0), impl.ErrTwice},
		{busy, save(3), impl.ErrRange}, {busy, save(-1), impl.ErrRange}, {busy, save(0), impl.OK}, {busy, restart(3), impl.ErrRange}, {busy, rollBack(-1), impl.ErrRange}, {busy, restart(0), impl.OK},
		{busy, echo(3, 0), impl.ErrRange}, {busy, echo(1, 1), impl.ErrTwice}, {busy, echo(1, 9), impl.ErrTwice}, {busy, echo(1, 0), impl.ErrTwice}, {busy, echo(0, 0), impl.ErrRange}, {busy, echo(0, 3), impl.ErrRange}, {busy, echo(0, 2), impl.ErrTwice},
		{serving(t, busy, restart(2), restart(0)), echo(0, 2), impl.ErrAway},
	} {
		if _, code := serves(t, c.s, c.a); code != c.want {
			t.Errorf("%v is %d, not %d", c.a, code, c.want)
		}
	}
	away := busyService(3)
	away.Replicas[2].Mute = true
	if _, code := serves(t, away, echo(0, 2)); code != impl.ErrAway {
		t.Errorf("an echo again of one that is Mute is %d", code)
	}
}

// A restart keeps what it has with each number but 1.
func TestP1NumbersOfARestart(t *testing.T) {
	for _, n := range []int{-1, 0, 1, 2, 3, 256 + 1, 1<<32 + 1, math.MinInt, math.MaxInt} {
		s := impl.Service{Replicas: []impl.Replica{{Now: mark(9, 90), Saved: mark(4, 40), Best: mark(7, 70)}}}
		want := mark(9, 90)
		if n == 1 {
			want = mark(4, 40)
		}
		s = serving(t, s, quAct(impl.QuRestart, 0, n))
		if r := s.Replicas[0]; r.Now != want || r.Best != want || r.Saved != mark(4, 40) || !r.Mute {
			t.Errorf("a restart with %d is %v", n, r)
		}
		if r := serving(t, s, save(0)).Replicas[0]; r.Saved != want || !r.Mute || r.Now != want {
			t.Errorf("a save behind a restart with %d is %v", n, r)
		}
	}
}

func TestP1TheLastTime(t *testing.T) {
	s := busyService(3)
	s.Time = lastTime - 1
	for _, a := range []impl.QuAct{askAll(), store(1), save(9), {}, begin(1), reply(0, 0)} {
		x, _ := serves(t, s, a)
		if x.Time != lastTime {
			t.Errorf("%v ahead of MaxScript leaves %d", a, x.Time)
		}
		for _, more := range actsOn(3) {
			if y, code := impl.ServiceStep(x, more); code != impl.ErrFull || serviceText(y) != serviceText(x) {
				t.Fatalf("%v at MaxScript is %s, %d", more, serviceText(y), code)
			}
		}
	}
	full := fullService(lastTime)
	for kind := range 9 {
		serves(t, full, quAct(kind, 0, 0))
	}
	if x := serving(t, s, askAll()); x.Reads[3].Begun != lastTime || x.Reads[3].Ended != -1 {
		t.Errorf("a read at MaxScript is %v", x.Reads[3])
	}
}

func serviceRunIs(t *testing.T, replicas int, acts []impl.QuAct, want int) {
	t.Helper()
	s, codes, code := impl.ServiceRun(replicas, acts)
	if code != want || want != impl.OK && (len(codes) != 0 || serviceText(s) != serviceText(impl.Service{})) || want == impl.OK && (len(codes) != len(acts) || s.Time != len(acts)) {
		t.Errorf("ServiceRun of %d and %d acts is %.200s, %d codes, %d, not %d", replicas, len(acts), serviceText(s), len(codes), code, want)
	}
}

func TestP1RunsOfServices(t *testing.T) {
	for _, n := range []int{0, 1, 2, 199, 200, 201, 202, 1000, 4095, 4096, 4097, 5000, 70000} {
		for _, a := range []impl.QuAct{{}, askAll(), begin(1), restart(0), store(-1), quAct(math.MinInt, math.MaxInt, math.MinInt)} {
			acts := slices.Repeat([]impl.QuAct{a}, n)
			for replicas := 1; replicas <= 7; replicas++ {
				want := impl.OK
				if n > lastTime {
					want = impl.ErrMany
				}
				if n > impl.MaxList {
					want = impl.ErrLong
				}
				serviceRunIs(t, replicas, acts, want)
			}
			for _, replicas := range noReplicaCounts {
				want := impl.ErrRange
				if n > impl.MaxList {
					want = impl.ErrLong
				}
				serviceRunIs(t, replicas, acts, want)
			}
		}
	}
	for _, acts := range [][]impl.QuAct{nil, {}} {
		if s, codes, code := impl.ServiceRun(4, acts); serviceText(s) != serviceText(newService(t, 4)) || len(codes) != 0 || code != impl.OK {
			t.Errorf("ServiceRun of nothing is %s, %v, %d", serviceText(s), codes, code)
		}
	}
}

func TestP1NoListAndAnEmptyOneAreOneService(t *testing.T) {
	none := impl.Service{Replicas: []impl.Replica{{Mute: true}, {}, {}}, Time: 9, Writes: []impl.WriteOp{{Mark: mark(1, 1), Begun: 1, Ended: -1}}, Reads: []impl.ReadOp{{Begun: 1, Ended: -1}}}
	empty := none
	empty.Replicas, empty.Writes, empty.Reads = slices.Clone(none.Replicas), slices.Clone(none.Writes), slices.Clone(none.Reads)
	for i := range empty.Replicas {
		empty.Replicas[i].Echos = []int{}
	}
	empty.Writes[0].Acks, empty.Reads[0].From = []int{}, []int{}
	bare := impl.Service{Replicas: make([]impl.Replica, 3), Writes: []impl.WriteOp{}, Reads: []impl.ReadOp{}}
	for _, a := range actsOn(3) {
		x, code := serves(t, none, a)
		y, same := serves(t, empty, a)
		if serviceText(x) != serviceText(y) || code != same {
			t.Errorf("%v of no lists is %s, %d, of empty ones %s, %d", a, serviceText(x), code, serviceText(y), same)
		}
		serves(t, bare, a)
	}
}

// inner lists a service's lists of replicas.
func inner(s *impl.Service) []*[]int {
	var out []*[]int
	for i := range s.Replicas {
		out = append(out, &s.Replicas[i].Echos)
	}
	for i := range s.Writes {
		out = append(out, &s.Writes[i].Acks)
	}
	for i := range s.Reads {
		out = append(out, &s.Reads[i].From)
	}
	return out
}

func deepCopy(s impl.Service) impl.Service {
	s.Replicas, s.Writes, s.Reads = slices.Clone(s.Replicas), slices.Clone(s.Writes), slices.Clone(s.Reads)
	for _, list := range inner(&s) {
		*list = slices.Clone(*list)
	}
	return s
}

// roomyService has room behind the ends of all its lists that nothing may be written into; the answer tells all of that memory.
func roomyService(s impl.Service) (impl.Service, func() string) {
	s = deepCopy(s)
	var wide [][]int
	for _, list := range inner(&s) {
		w := append(*list, 77, 78)
		wide = append(wide, w)
		*list = w[:len(*list)]
	}
	replicas := append(s.Replicas, impl.Replica{Saved: mark(77, 77)}, impl.Replica{Mute: true})
	writes := append(s.Writes, impl.WriteOp{Begun: 77}, impl.WriteOp{Begun: 78})
	reads := append(s.Reads, impl.ReadOp{Begun: 77}, impl.ReadOp{Begun: 78})
	s.Replicas, s.Writes, s.Reads = replicas[:len(s.Replicas)], writes[:len(s.Writes)], reads[:len(s.Reads)]
	return s, func() string { return fmt.Sprint(wide, replicas, writes, reads) }
}

// spoilService writes over all memory of a service's lists, and behind their ends.
func spoilService(s impl.Service) {
	for _, list := range inner(&s) {
		for i := range (*list)[:cap(*list)] {
			(*list)[:cap(*list)][i] = -9
		}
	}
	clear(s.Replicas[:cap(s.Replicas)])
	clear(s.Writes[:cap(s.Writes)])
	clear(s.Reads[:cap(s.Reads)])
}

// listsApart numbers the memory of each list, and wants each to keep its number.
func listsApart(t *testing.T, s impl.Service) {
	t.Helper()
	s = impl.Service{Replicas: slices.Clone(s.Replicas), Writes: slices.Clone(s.Writes), Reads: slices.Clone(s.Reads)}
	lists := inner(&s)
	for k, list := range lists {
		for i := range (*list)[:cap(*list)] {
			(*list)[:cap(*list)][i] = k
		}
	}
	for k, list := range lists {
		for _, n := range (*list)[:cap(*list)] {
			if n != k {
				t.Fatalf("lists %d and %d of an answer are one memory", k, n)
			}
		}
	}
}

// stepsAlone wants the answer of a step to share nothing with its argument, nor with another answer, nor within itself.
func stepsAlone(t *testing.T, start impl.Service, a impl.QuAct) {
	t.Helper()
	s, whole := roomyService(start)
	was := whole()
	x, code := impl.ServiceStep(s, a)
	y, _ := impl.ServiceStep(s, a)
	z, _ := impl.ServiceStep(s, a)
	want := serviceText(y)
	listsApart(t, x)
	spoilService(x)
	if whole() != was || serviceText(y) != want {
		t.Fatalf("%v, %d, writes into its argument, or answers its memory or another's", a, code)
	}
	listsApart(t, z)
	spoilService(s)
	if serviceText(y) != want {
		t.Fatalf("%v, %d, answers its argument's memory", a, code)
	}
}

func TestP1ServicesStayAsTheyWere(t *testing.T) {
	acts := []impl.QuAct{begin(1), store(0), store(2), askAll(), reply(1, 0), reply(0, 0), reply(2, 0), reply(0, 9), save(1), restart(1), rollBack(2), rollBack(0), echo(0, 1), echo(0, 2), echo(1, 0), {}, store(-1)}
	services := rightServices()
	for n := 3; n <= 7; n++ {
		s := busyService(n)
		s.Writes[2].Acks, s.Reads[0].From, s.Replicas[0].Echos = []int{1, 2}, []int{0}, []int{2}
		services = append(services, s)
	}
	services = append(services, fullService(lastTime), fullService(lastTime-1))
	for _, s := range append(services, wrongServices()[:60]...) {
		for _, a := range acts {
			stepsAlone(t, s, a)
		}
	}
}

func TestP1LooksAtServicesLeaveThem(t *testing.T) {
	for _, start := range append(rightServices(), wrongServices()...) {
		s, whole := roomyService(start)
		was := whole()
		impl.ServiceOK(s)
		impl.FreshReads(s)
		x, _ := impl.Holders(s, 0)
		y, _ := impl.Holders(s, 0)
		want := fmt.Sprint(y)
		for i := range x[:cap(x)] {
			x[:cap(x)][i] = -9
		}
		if whole() != was || fmt.Sprint(y) != want {
			t.Fatalf("a look at %.300s changes it, or two Holders are one memory", was)
		}
	}
}

func TestP1ActsOfAServiceStayAsTheyWere(t *testing.T) {
	for n := 1; n <= 7; n++ {
		for seed := range 10 {
			s := stream(seed)
			_, acts, _ := scripted(t, &s, n, &tally{})
			was := fmt.Sprint(acts)
			x, codes, _ := impl.ServiceRun(n, acts[:150])
			y, more, code := impl.ServiceRun(n, acts[:150])
			if fmt.Sprint(acts) != was || code != impl.OK {
				t.Fatalf("ServiceRun changes its acts, %d", code)
			}
			want := serviceText(y) + fmt.Sprint(more)
			listsApart(t, x)
			spoilService(x)
			clear(codes[:cap(codes)])
			clear(acts)
			if serviceText(y)+fmt.Sprint(more) != want {
				t.Fatal("an answer of ServiceRun is another's memory, or an argument's")
			}
		}
	}
	x, _ := impl.NewService(5)
	y, _ := impl.NewService(5)
	x.Replicas[0].Mute = true
	if y.Replicas[0].Mute {
		t.Error("two answers of NewService are one memory")
	}
}

// everyServiceCall tells what each function of the quorum answers to inputs drawn from a seed, wrong ones among them.
func everyServiceCall(seed stream) string {
	s := seed
	n := 1 + int(s.next())%7
	x, code := impl.NewService(n + int(s.next())/200)
	size, none := impl.QuorumSize(int(s.next()) % 10)
	out := []string{serviceText(x), fmt.Sprint(code, size, none)}
	if s.next() < 40 {
		wrong := wrongServices()
		x = wrong[257*int(s.next())%len(wrong)]
	}
	var acts []impl.QuAct
	for range 60 {
		a := quAct(int(s.next())%9, int(s.next())%(n+1), int(s.next())%4)
		if impl.ServiceOK(x) {
			a = someQuAct(&s, x)
		}
		y, code := impl.ServiceStep(x, a)
		holders, bad := impl.Holders(x, int(s.next())%5)
		fresh, same := impl.FreshReads(x)
		out = append(out, fmt.Sprintf("%.2000s", serviceText(y)), fmt.Sprint(code, holders, bad, fresh, same))
		if code != impl.ErrBad {
			x = y
		}
		acts = append(acts, a)
	}
	y, codes, code := impl.ServiceRun(n, acts)
	return strings.Join(append(out, serviceText(y), fmt.Sprint(codes, code)), "\n")
}

func TestP1AlikeArgumentsHaveAlikeServices(t *testing.T) {
	alikeAnswers(t, everyServiceCall)
}

func TestP1ManyServicesAtOnce(t *testing.T) {
	alikeAtOnce(t, everyServiceCall)
}
