package tests

import (
	"fmt"
	"math/bits"
	"slices"
	"testing"

	"loop.example/g00257/impl"
)

const (
	lastTime = 200
	lastTag  = 1000000
)

func quAct(kind, replica, n int) impl.QuAct {
	return impl.QuAct{Kind: kind, Replica: replica, N: n}
}

func begin(tag int) impl.QuAct           { return quAct(impl.QuBegin, 0, tag) }
func store(replica int) impl.QuAct       { return quAct(impl.QuStore, replica, 0) }
func askAll() impl.QuAct                 { return quAct(impl.QuAsk, 0, 0) }
func reply(replica, read int) impl.QuAct { return quAct(impl.QuReply, replica, read) }
func save(replica int) impl.QuAct        { return quAct(impl.QuSave, replica, 0) }
func restart(replica int) impl.QuAct     { return quAct(impl.QuRestart, replica, 0) }
func rollBack(replica int) impl.QuAct    { return quAct(impl.QuRestart, replica, 1) }
func echo(replica, from int) impl.QuAct  { return quAct(impl.QuEcho, replica, from) }

func mark(counter, tag int) impl.Mark { return impl.Mark{Counter: counter, Tag: tag} }

// serviceText is the same of nil and of empty lists.
func serviceText(s impl.Service) string { return fmt.Sprint(s) }

// council is what a service should be, kept as the plainest thing: whoever is in a list is a flag.
type council struct {
	seats         []seat
	time          int
	writes, reads []motion
}

type seat struct {
	mute             bool
	now, saved, best impl.Mark
	echos            [7]bool
}

type motion struct {
	mark         impl.Mark
	who          [7]bool
	begun, ended int
}

func flagsOf(list []int) (out [7]bool) {
	for _, i := range list {
		out[i] = true
	}
	return out
}

func listOf(flags [7]bool) (out []int) {
	for i, set := range flags {
		if set {
			out = append(out, i)
		}
	}
	return out
}

func councilOf(s impl.Service) *council {
	c := &council{time: s.Time}
	for _, r := range s.Replicas {
		c.seats = append(c.seats, seat{r.Mute, r.Now, r.Saved, r.Best, flagsOf(r.Echos)})
	}
	for _, w := range s.Writes {
		c.writes = append(c.writes, motion{w.Mark, flagsOf(w.Acks), w.Begun, w.Ended})
	}
	for _, r := range s.Reads {
		c.reads = append(c.reads, motion{r.Best, flagsOf(r.From), r.Begun, r.Ended})
	}
	return c
}

func (c *council) service() impl.Service {
	s := impl.Service{Time: c.time}
	for _, x := range c.seats {
		s.Replicas = append(s.Replicas, impl.Replica{Mute: x.mute, Now: x.now, Saved: x.saved, Echos: listOf(x.echos), Best: x.best})
	}
	for _, x := range c.writes {
		s.Writes = append(s.Writes, impl.WriteOp{Mark: x.mark, Acks: listOf(x.who), Begun: x.begun, Ended: x.ended})
	}
	for _, x := range c.reads {
		s.Reads = append(s.Reads, impl.ReadOp{Best: x.mark, From: listOf(x.who), Begun: x.begun, Ended: x.ended})
	}
	return s
}

func (c *council) enough(flags [7]bool) bool { return 2*len(listOf(flags)) > len(c.seats) }

func raise(m *impl.Mark, by impl.Mark) {
	if m.Counter < by.Counter {
		*m = by
	}
}

func (c *council) does(a impl.QuAct) int {
	if c.time == lastTime {
		return impl.ErrFull
	}
	c.time++
	if a.Kind < 1 || a.Kind > 7 {
		return impl.ErrForm
	}
	if a.Kind == 1 {
		for _, w := range c.writes {
			if w.ended < 0 {
				return impl.ErrTwice
			}
		}
		c.writes = append(c.writes, motion{mark(len(c.writes)+1, slices.Sorted(slices.Values([]int{0, a.N, lastTag}))[1]), [7]bool{}, c.time, -1})
		return impl.OK
	}
	if a.Kind == 3 {
		c.reads = append(c.reads, motion{begun: c.time, ended: -1})
		return impl.OK
	}
	if a.Replica < 0 || a.Replica >= len(c.seats) {
		return impl.ErrRange
	}
	return c.sits(a.Kind, a.Replica, a.N)
}

func (c *council) sits(kind, i, n int) int {
	x := &c.seats[i]
	switch kind {
	case 2:
		return c.stores(i)
	case 4:
		return c.replies(i, n)
	case 5:
		x.saved = x.now
	case 6:
		if n == 1 {
			x.now = x.saved
		}
		*x = seat{mute: true, now: x.now, saved: x.saved, best: x.now}
		for k := range c.writes {
			if c.writes[k].ended < 0 {
				c.writes[k].who[i] = false
			}
		}
	case 7:
		return c.echoes(i, n)
	}
	return impl.OK
}

func (c *council) stores(i int) int {
	if len(c.writes) == 0 {
		return impl.ErrNone
	}
	if c.seats[i].mute {
		return impl.ErrAway
	}
	w := &c.writes[len(c.writes)-1]
	raise(&c.seats[i].now, w.mark)
	w.who[i] = true
	if w.ended < 0 && c.enough(w.who) {
		w.ended = c.time
	}
	return impl.OK
}

func (c *council) replies(i, n int) int {
	if n < 0 || n >= len(c.reads) {
		return impl.ErrRange
	}
	if c.seats[i].mute {
		return impl.ErrAway
	}
	r := &c.reads[n]
	if r.ended >= 0 || r.who[i] {
		return impl.ErrTwice
	}
	raise(&r.mark, c.seats[i].now)
	r.who[i] = true
	if c.enough(r.who) {
		r.ended = c.time
	}
	return impl.OK
}

func (c *council) echoes(i, n int) int {
	x := &c.seats[i]
	if !x.mute {
		return impl.ErrTwice
	}
	if n == i || n < 0 || n >= len(c.seats) {
		return impl.ErrRange
	}
	if c.seats[n].mute {
		return impl.ErrAway
	}
	if x.echos[n] {
		return impl.ErrTwice
	}
	raise(&x.best, c.seats[n].now)
	x.echos[n] = true
	if c.enough(x.echos) {
		x.mute, x.now, x.echos = false, x.best, [7]bool{}
	}
	return impl.OK
}

// serves wants what the council of the service does.
func serves(t *testing.T, s impl.Service, a impl.QuAct) (impl.Service, int) {
	t.Helper()
	c := councilOf(s)
	want := c.does(a)
	x, code := impl.ServiceStep(s, a)
	if code != want || serviceText(x) != serviceText(c.service()) {
		t.Fatalf("ServiceStep of %s and %v is %s, %d, not %s, %d", serviceText(s), a, serviceText(x), code, serviceText(c.service()), want)
	}
	if !impl.ServiceOK(x) {
		t.Fatalf("ServiceOK of %s is false", serviceText(x))
	}
	return x, code
}

func newService(t *testing.T, replicas int) impl.Service {
	t.Helper()
	s, code := impl.NewService(replicas)
	if code != impl.OK || !impl.ServiceOK(s) || serviceText(s) != serviceText(impl.Service{Replicas: make([]impl.Replica, replicas)}) {
		t.Fatalf("NewService of %d is %s, %d", replicas, serviceText(s), code)
	}
	return s
}

// serving does acts that all succeed.
func serving(t *testing.T, s impl.Service, acts ...impl.QuAct) impl.Service {
	t.Helper()
	for i, a := range acts {
		x, code := serves(t, s, a)
		if code != impl.OK {
			t.Fatalf("act %d, %v, of %s is %d", i, a, serviceText(s), code)
		}
		s = x
	}
	return s
}

// answersCode does an act that fails: it takes its time, and nothing else changes.
func answersCode(t *testing.T, s impl.Service, a impl.QuAct, want int) impl.Service {
	t.Helper()
	x, code := serves(t, s, a)
	s.Time++
	if code != want || serviceText(x) != serviceText(s) {
		t.Fatalf("%v is %s, %d, not %s, %d", a, serviceText(x), code, serviceText(s), want)
	}
	return x
}

func lastAcknowledged(s impl.Service) int {
	out := 0
	for _, w := range s.Writes {
		if w.Ended != -1 {
			out = w.Mark.Counter
		}
	}
	return out
}

// lawful looks at the promise itself. known[i] is what was acknowledged when read i began.
func lawful(s impl.Service, known []int) error {
	for i, r := range s.Reads {
		if r.Ended != -1 && r.Best.Counter < known[i] {
			return fmt.Errorf("read %d of %s lacks %d", i, serviceText(s), known[i])
		}
		if r.Best.Counter > 0 && s.Writes[r.Best.Counter-1].Mark != r.Best {
			return fmt.Errorf("read %d of %s was never written", i, serviceText(s))
		}
	}
	lack, last := 0, lastAcknowledged(s)
	for _, r := range s.Replicas {
		if !r.Mute && r.Now.Counter < last {
			lack++
		}
	}
	if 2*lack > len(s.Replicas) {
		return fmt.Errorf("of %s %d lack %d", serviceText(s), lack, last)
	}
	if fresh, code := impl.FreshReads(s); !fresh || code != impl.OK {
		return fmt.Errorf("FreshReads of %s is %v, %d", serviceText(s), fresh, code)
	}
	return nil
}

func wantLawful(t *testing.T, s impl.Service, known []int) {
	t.Helper()
	if err := lawful(s, known); err != nil {
		t.Fatal(err)
	}
}

func TestP10SizesOfMajorities(t *testing.T) {
	if impl.MaxReplicas != 7 || impl.MaxScript != lastTime {
		t.Error("MaxReplicas and MaxScript are", impl.MaxReplicas, impl.MaxScript)
	}
	for i, want := range []int{1, 2, 2, 3, 3, 4, 4} {
		if size, code := impl.QuorumSize(i + 1); size != want || code != impl.OK {
			t.Errorf("QuorumSize of %d is %d, %d", i+1, size, code)
		}
		newService(t, i+1)
	}
	for _, n := range noReplicaCounts {
		if size, code := impl.QuorumSize(n); size != 0 || code != impl.ErrRange {
			t.Errorf("QuorumSize of %d is %d, %d", n, size, code)
		}
		if s, code := impl.NewService(n); serviceText(s) != serviceText(impl.Service{}) || code != impl.ErrRange {
			t.Errorf("NewService of %d is %s, %d", n, serviceText(s), code)
		}
	}
}

func TestP10MajoritiesMeet(t *testing.T) {
	for n := 1; n <= 7; n++ {
		size, _ := impl.QuorumSize(n)
		apart := false
		for a := range uint(1) << n {
			for b := range uint(1) << n {
				if bits.OnesCount(a) >= size && bits.OnesCount(b) >= size && a&b == 0 {
					t.Errorf("of %d replicas %b and %b have none in common", n, a, b)
				}
				apart = apart || bits.OnesCount(a) == size-1 && bits.OnesCount(b) == size-1 && a&b == 0
			}
		}
		if !apart {
			t.Errorf("of %d replicas %d are more than a majority", n, size)
		}
	}
}

// A write and a read end with just a majority, and not with one less, whoever they are.
func TestP10JustAMajorityEnds(t *testing.T) {
	for n := 1; n <= 7; n++ {
		for set := range uint(1) << n {
			s := serving(t, newService(t, n), begin(5), askAll())
			for i := range n {
				if set>>i&1 == 0 {
					continue
				}
				was := len(s.Writes[0].Acks)
				s = serving(t, s, store(i))
				if ended := 2*(was+1) > n; ended != (s.Writes[0].Ended != -1) || 2*was <= n && ended && s.Writes[0].Ended != s.Time {
					t.Fatalf("a write of %d Acks of %d is %v at %d", was+1, n, s.Writes[0], s.Time)
				}
				if s.Reads[0].Ended != -1 {
					continue
				}
				s = serving(t, s, reply(i, 0))
				if ended := 2*(was+1) > n; ended && s.Reads[0].Ended != s.Time || !ended && s.Reads[0].Ended != -1 {
					t.Fatalf("a read of %d of %d is %v at %d", was+1, n, s.Reads[0], s.Time)
				}
			}
		}
	}
}

// Whatever majorities write, read, and are told of by those that come back.
func TestP10EveryMajorityReadsIt(t *testing.T) {
	for _, n := range []int{1, 2, 3, 4, 5} {
		for writers := range uint(1) << n {
			for readers := range uint(1) << n {
				if 2*bits.OnesCount(writers) <= n || 2*bits.OnesCount(readers) <= n {
					continue
				}
				s := serving(t, newService(t, n), begin(int(writers)))
				for i := range n {
					if writers>>i&1 == 1 {
						s = serving(t, s, store(i))
					}
				}
				s = serving(t, s, askAll())
				for i := range n {
					if readers>>i&1 == 1 && s.Reads[0].Ended == -1 {
						s = serving(t, s, reply(i, 0))
					}
				}
				if s.Reads[0].Ended != s.Time || s.Reads[0].Best != mark(1, int(writers)) {
					t.Fatalf("of %d replicas %b wrote, %b read: %v", n, writers, readers, s.Reads[0])
				}
				wantLawful(t, s, []int{1})
			}
		}
	}
}

// Who acknowledged a write and is rolled back counts no more, unless it has Ended.
func TestP10RolledBackWhileAWriteHasNotEnded(t *testing.T) {
	s := serving(t, newService(t, 3), begin(7), store(0), rollBack(0))
	if len(s.Writes[0].Acks) != 0 || s.Replicas[0].Now != mark(0, 0) {
		t.Fatalf("rolled back: %s", serviceText(s))
	}
	s = serving(t, s, echo(0, 1), echo(0, 2), store(1))
	if s.Writes[0].Ended != -1 || s.Replicas[0].Mute || s.Replicas[0].Now != mark(0, 0) {
		t.Fatalf("one Ack counts: %s", serviceText(s))
	}
	s = serving(t, s, askAll(), reply(0, 0), reply(2, 0))
	wantLawful(t, s, []int{0})
	s = serving(t, s, store(0), askAll(), reply(0, 1), reply(2, 1))
	if s.Writes[0].Ended != 10 || s.Reads[1].Best != mark(1, 7) {
		t.Fatalf("two Acks count: %s", serviceText(s))
	}
	wantLawful(t, s, []int{0, 1})

	// also who has all that it had
	s = serving(t, newService(t, 5), begin(7), store(0), store(3), restart(3))
	if !slices.Equal(s.Writes[0].Acks, []int{0}) || s.Replicas[3].Now != mark(1, 7) || s.Replicas[3].Best != mark(1, 7) {
		t.Fatalf("restarted: %s", serviceText(s))
	}
}

func TestP10RolledBackBehindAWriteThatEnded(t *testing.T) {
	s := serving(t, newService(t, 3), begin(7), store(0), store(1), rollBack(1))
	if !slices.Equal(s.Writes[0].Acks, []int{0, 1}) || s.Writes[0].Ended != 3 || !s.Replicas[1].Mute {
		t.Fatalf("rolled back: %s", serviceText(s))
	}
	s = answersCode(t, serving(t, s, askAll()), reply(1, 0), impl.ErrAway)
	s = answersCode(t, s, store(1), impl.ErrAway)
	s = serving(t, s, echo(1, 2))
	if !s.Replicas[1].Mute || s.Replicas[1].Best != mark(0, 0) {
		t.Fatalf("one less than a majority: %s", serviceText(s))
	}
	s = serving(t, s, echo(1, 0))
	if r := s.Replicas[1]; r.Mute || r.Now != mark(1, 7) || r.Best != mark(1, 7) || len(r.Echos) != 0 {
		t.Fatalf("told of it: %s", serviceText(s))
	}
	s = serving(t, s, reply(1, 0), reply(2, 0))
	wantLawful(t, s, []int{1})
}

// An older write that Ended keeps its Acks while the last one has not.
func TestP10OnlyTheLastWriteLosesAcks(t *testing.T) {
	s := serving(t, newService(t, 3), begin(1), store(0), store(1), store(2), begin(2), store(0), rollBack(0))
	if !slices.Equal(s.Writes[0].Acks, []int{0, 1, 2}) || len(s.Writes[1].Acks) != 0 {
		t.Fatalf("restarted: %s", serviceText(s))
	}
	s = serving(t, s, store(1), store(2), restart(1), rollBack(2))
	if !slices.Equal(s.Writes[0].Acks, []int{0, 1, 2}) || !slices.Equal(s.Writes[1].Acks, []int{1, 2}) {
		t.Fatalf("restarted: %s", serviceText(s))
	}
	wantLawful(t, s, nil)
}

func TestP10RolledBackWhileAReadHasNotEnded(t *testing.T) {
	s := serving(t, newService(t, 5), begin(7), store(2), store(3), store(4), askAll(), reply(2, 0), rollBack(2))
	if s.Reads[0].Best != mark(1, 7) || !slices.Equal(s.Reads[0].From, []int{2}) {
		t.Fatalf("what it replied: %s", serviceText(s))
	}
	s = serving(t, s, echo(2, 0), echo(2, 1), echo(2, 3))
	s = answersCode(t, s, reply(2, 0), impl.ErrTwice)
	s = serving(t, s, reply(1, 0))
	s = answersCode(t, s, reply(1, 0), impl.ErrTwice)
	s = serving(t, s, reply(0, 0))
	if s.Reads[0].Ended != s.Time || s.Reads[0].Best != mark(1, 7) || !slices.Equal(s.Reads[0].From, []int{0, 1, 2}) {
		t.Fatalf("the read: %s", serviceText(s))
	}
	s = answersCode(t, s, reply(4, 0), impl.ErrTwice)
	s = answersCode(t, s, reply(1, 0), impl.ErrTwice)
	wantLawful(t, s, []int{1})
}

// Who restarts again while it is told of things begins anew.
func TestP10RestartsWhileMute(t *testing.T) {
	s := serving(t, newService(t, 5), save(0), begin(7), store(0), store(1), store(2), restart(0), echo(0, 3), echo(0, 4))
	if r := s.Replicas[0]; r.Now != mark(1, 7) || r.Best != mark(1, 7) || !slices.Equal(r.Echos, []int{3, 4}) {
		t.Fatalf("restarted: %s", serviceText(s))
	}
	s = serving(t, s, rollBack(0))
	if r := s.Replicas[0]; r.Now != mark(0, 0) || r.Best != mark(0, 0) || len(r.Echos) != 0 {
		t.Fatalf("rolled back: %s", serviceText(s))
	}
	s = serving(t, s, echo(0, 4), echo(0, 1))
	if r := s.Replicas[0]; !r.Mute || r.Best != mark(1, 7) || r.Now != mark(0, 0) || !slices.Equal(r.Echos, []int{1, 4}) {
		t.Fatalf("told of it: %s", serviceText(s))
	}
	s = serving(t, s, save(0), rollBack(0), echo(0, 4), echo(0, 3), echo(0, 1))
	if r := s.Replicas[0]; r.Mute || r.Now != mark(1, 7) {
		t.Fatalf("it speaks: %s", serviceText(s))
	}
}

// Replicas of one or two have no majority of others: who was restarted says nothing more.
func TestP10TooFewToComeBack(t *testing.T) {
	one := serving(t, newService(t, 1), begin(3), store(0), askAll(), reply(0, 0), restart(0))
	for _, n := range []int{0, 1, -1} {
		one = answersCode(t, one, echo(0, n), impl.ErrRange)
	}
	one = answersCode(t, one, store(0), impl.ErrAway)
	wantLawful(t, one, []int{1})
	two := serving(t, newService(t, 2), begin(3), store(0), store(1), rollBack(0), echo(0, 1))
	if r := two.Replicas[0]; !r.Mute || r.Best != mark(1, 3) || r.Now != mark(0, 0) {
		t.Errorf("one of two: %s", serviceText(two))
	}
	two = answersCode(t, two, echo(0, 1), impl.ErrTwice)
	two = answersCode(t, serving(t, two, askAll(), reply(1, 0)), reply(0, 0), impl.ErrAway)
	wantLawful(t, two, []int{1})
}

func TestP10Echos(t *testing.T) {
	s := serving(t, newService(t, 7), begin(9), store(6), save(6), restart(2), restart(4))
	s = answersCode(t, s, echo(6, 5), impl.ErrTwice)
	s = answersCode(t, s, echo(6, 6), impl.ErrTwice)
	s = answersCode(t, s, echo(6, -1), impl.ErrTwice)
	s = answersCode(t, s, echo(2, 2), impl.ErrRange)
	s = answersCode(t, s, echo(2, 7), impl.ErrRange)
	s = answersCode(t, s, echo(2, -1), impl.ErrRange)
	s = answersCode(t, s, echo(2, 4), impl.ErrAway)
	s = answersCode(t, serving(t, s, echo(2, 6)), echo(2, 6), impl.ErrTwice)
	s = serving(t, s, echo(2, 0), echo(2, 3))
	if r := s.Replicas[2]; !slices.Equal(r.Echos, []int{0, 3, 6}) || !r.Mute || r.Best != mark(1, 9) || r.Now != mark(0, 0) {
		t.Errorf("one less than a majority: %v", r)
	}
	s = answersCode(t, serving(t, s, restart(6)), echo(2, 6), impl.ErrAway)
	s = serving(t, s, echo(2, 1))
	if r := s.Replicas[2]; len(r.Echos) != 0 || r.Mute || r.Best != mark(1, 9) || r.Now != mark(1, 9) || r.Saved != mark(0, 0) {
		t.Errorf("a majority: %v", r)
	}
	s = answersCode(t, s, echo(2, 5), impl.ErrTwice)
	serving(t, s, echo(4, 2))
}

func TestP10TagsAreCut(t *testing.T) {
	for _, c := range [][2]int{{0, 0}, {1, 1}, {lastTag - 1, lastTag - 1}, {lastTag, lastTag}, {lastTag + 1, lastTag}, {-1, 0}, {-lastTag, 0}, {1<<32 + 5, lastTag}, {-1<<32 + 5, 0}, {-1 << 63, 0}, {1<<63 - 1, lastTag}} {
		s := serving(t, newService(t, 1), begin(c[0]), store(0), askAll(), reply(0, 0))
		if m := mark(1, c[1]); s.Writes[0].Mark != m || s.Replicas[0].Now != m || s.Reads[0].Best != m {
			t.Errorf("a write of %d is %s", c[0], serviceText(s))
		}
	}
}

func TestP10OneWriteBehindTheOther(t *testing.T) {
	s := newService(t, 3)
	for k := 1; k <= 30; k++ {
		s = serving(t, s, begin(k))
		s = answersCode(t, s, begin(k+100), impl.ErrTwice)
		s = serving(t, s, store(k%3))
		s = answersCode(t, s, begin(k+100), impl.ErrTwice)
		s = serving(t, s, store((k+1)%3), store((k+1)%3))
		if w := s.Writes[k-1]; len(s.Writes) != k || w.Mark != mark(k, k) || w.Ended != s.Time-1 || s.Replicas[k%3].Now != w.Mark {
			t.Fatalf("write %d: %s", k, serviceText(s))
		}
	}
	s = serving(t, s, store((30+2)%3))
	if w := s.Writes[29]; !slices.Equal(w.Acks, []int{0, 1, 2}) || w.Ended != s.Time-2 {
		t.Errorf("an Ack that comes late: %v", w)
	}
}

// Of two marks of the same Counter the first one counts, wherever they meet.
func TestP10MarksOfTheSameCounter(t *testing.T) {
	s := impl.Service{
		Replicas: []impl.Replica{{Now: mark(2, 10)}, {Now: mark(2, 11), Mute: true, Best: mark(2, 12)}, {Now: mark(2, 13)}},
		Time:     5,
		Writes:   []impl.WriteOp{{Mark: mark(1, 1), Begun: 1, Ended: 1}, {Mark: mark(2, 2), Begun: 2, Ended: -1}},
		Reads:    []impl.ReadOp{{Best: mark(2, 3), Begun: 1, Ended: -1}, {Begun: 5, Ended: -1}},
	}
	s = serving(t, s, store(0), reply(0, 0), reply(2, 1), reply(0, 1), echo(1, 0), echo(1, 2))
	if s.Replicas[0].Now.Tag != 10 || s.Reads[0].Best.Tag != 3 || s.Reads[1].Best.Tag != 13 || s.Replicas[1].Now.Tag != 12 {
		t.Errorf("marks of the same Counter: %s", serviceText(s))
	}
	if s = serving(t, s, store(1)); s.Replicas[1].Now.Tag != 12 || s.Writes[1].Ended != s.Time {
		t.Errorf("a store of the same Counter: %s", serviceText(s))
	}
}

// What a service has that never began new is taken as its words say.
func TestP10ServicesThatNeverBeganNew(t *testing.T) {
	all := []int{0, 1, 2}
	s := impl.Service{
		Replicas: []impl.Replica{{Mute: true, Now: mark(9, 9), Echos: []int{0, 2}, Best: mark(4, 4)}, {Now: mark(8, 8)}, {}},
		Time:     3,
		Writes:   []impl.WriteOp{{Mark: mark(1, 1), Acks: all, Begun: 2, Ended: -1}},
		Reads:    []impl.ReadOp{{From: []int{1, 2}, Best: mark(200, 1), Begun: 3, Ended: -1}},
	}
	s = answersCode(t, s, reply(1, 0), impl.ErrTwice)
	s = answersCode(t, s, echo(0, 2), impl.ErrTwice)
	x := serving(t, s, store(1))
	if x.Writes[0].Ended != 6 || x.Replicas[1].Now != mark(8, 8) {
		t.Errorf("a majority that had not Ended: %s", serviceText(x))
	}
	x = serving(t, s, echo(0, 1))
	if r := x.Replicas[0]; r.Mute || r.Now != mark(8, 8) {
		t.Errorf("Echos of more than a majority: %v", r)
	}
	s.Replicas[1].Now = mark(3, 3)
	x = serving(t, s, echo(0, 1), reply(0, 0))
	if x.Replicas[0].Now != mark(4, 4) || x.Reads[0].Ended != 7 || !slices.Equal(x.Reads[0].From, all) {
		t.Errorf("Best is below what it had: %s", serviceText(x))
	}
}

func TestP10Holders(t *testing.T) {
	s := serving(t, newService(t, 7), begin(1), store(0), store(2), store(4), store(6), begin(2), store(2), store(5), store(6), restart(6), store(3), store(0), begin(3), store(2))
	for counter, want := range map[int][]int{-1: {0, 1, 2, 3, 4, 5}, 0: {0, 1, 2, 3, 4, 5}, 1: {0, 2, 3, 4, 5}, 2: {0, 2, 3, 5}, 3: {2}, 4: nil, 200: nil, 201: nil, -1 << 63: {0, 1, 2, 3, 4, 5}, 1<<63 - 1: nil} {
		if got, code := impl.Holders(s, counter); !slices.Equal(got, want) || code != impl.OK {
			t.Errorf("Holders of %d are %v, %d", counter, got, code)
		}
	}
	edge := impl.Service{Replicas: []impl.Replica{{Now: mark(200, 0)}, {Now: mark(200, 0), Mute: true}, {Now: mark(199, 0), Saved: mark(200, 0), Best: mark(200, 0)}}}
	for counter, want := range map[int][]int{199: {0, 2}, 200: {0}, 201: nil} {
		if got, code := impl.Holders(edge, counter); !slices.Equal(got, want) || code != impl.OK {
			t.Errorf("Holders of %d are %v, %d", counter, got, code)
		}
	}
}

// endedAt has two writes and, of three reads, one that is told by its times.
func endedAt(first, second, begun, ended, best int) impl.Service {
	return impl.Service{
		Replicas: make([]impl.Replica, 2), Time: 20,
		Writes: []impl.WriteOp{{Mark: mark(1, 0), Begun: 1, Ended: first}, {Mark: mark(2, 0), Begun: 1, Ended: second}},
		Reads:  []impl.ReadOp{{Begun: 1, Ended: 1, Best: mark(200, 0)}, {Begun: begun, Ended: ended, Best: mark(best, 0)}, {Begun: 20, Ended: -1}},
	}
}

func TestP10FreshReads(t *testing.T) {
	for _, c := range []struct {
		first, second, begun, ended, best int
		fresh                             bool
	}{
		{3, 5, 6, 8, 2, true}, {3, 5, 6, 8, 1, false}, {3, 5, 6, 8, 0, false}, {3, 5, 6, 8, 200, true}, {3, 5, 5, 8, 1, true}, {3, 5, 5, 8, 0, false},
		{3, 5, 4, 4, 1, true}, {3, 5, 4, 20, 0, false}, {3, 5, 3, 20, 0, true}, {3, 5, 6, -1, 0, true}, {3, -1, 6, 8, 1, true}, {3, -1, 6, 8, 0, false},
		{3, -1, 3, 8, 0, true}, {9, 3, 4, 10, 1, false}, {9, 3, 4, 10, 2, true}, {9, 3, 10, 10, 1, false}, {3, 5, 20, 20, 1, false}, {20, 20, 20, 20, 0, true},
	} {
		s := endedAt(c.first, c.second, c.begun, c.ended, c.best)
		if fresh, code := impl.FreshReads(s); fresh != c.fresh || code != impl.OK {
			t.Errorf("FreshReads of %v is %v, %d", c, fresh, code)
		}
	}
	for n := 1; n <= 7; n++ {
		if fresh, code := impl.FreshReads(newService(t, n)); !fresh || code != impl.OK {
			t.Errorf("FreshReads of nothing is %v, %d", fresh, code)
		}
	}
}

// someQuAct is mostly one that may succeed, and leaves mostly so many that speak that the others come back.
func someQuAct(s *stream, x impl.Service) impl.QuAct {
	n, mute := len(x.Replicas), 0
	i := int(s.next()) % n
	for j := range n {
		if x.Replicas[j].Mute {
			mute++
		}
	}
	switch k := s.next(); {
	case k >= 180 && k < 205 && mute >= (n-1)/2 && s.next() < 240:
		return store(i)
	case k < 25:
		return begin(int(s.next()))
	case k < 90:
		return store(i)
	case k < 105:
		return askAll()
	case k < 165:
		return reply(i, max(0, len(x.Reads)-1-int(s.next())%3))
	case k < 180:
		return save(i)
	case k < 190:
		return restart(i)
	case k < 205:
		return rollBack(i)
	case k < 250:
		for j := range n {
			if x.Replicas[j].Mute {
				i = j
			}
		}
		return echo(i, int(s.next())%n)
	}
	return quAct(int(s.next())%9, int(s.next())%(n+2)-1, int(s.next())%9-1)
}

// tally counts what has come about, so that no law is kept by nothing having happened.
type tally struct{ writes, reads, behind, backInWrite, backInRead, woken int }

func (c *tally) count(was, now impl.Service, a impl.QuAct, code int) {
	if code != impl.OK {
		return
	}
	switch a.Kind {
	case impl.QuStore:
		if lastAcknowledged(was) < lastAcknowledged(now) {
			c.writes++
		}
	case impl.QuReply:
		if now.Reads[a.N].Ended != -1 {
			c.reads++
			c.behind += min(1, now.Reads[a.N].Best.Counter)
		}
	case impl.QuRestart:
		if k := len(was.Writes); a.N == 1 && k > 0 && was.Writes[k-1].Ended == -1 && slices.Contains(was.Writes[k-1].Acks, a.Replica) {
			c.backInWrite++
		}
		if k := len(was.Reads); a.N == 1 && k > 0 && was.Reads[k-1].Ended == -1 && slices.Contains(was.Reads[k-1].From, a.Replica) {
			c.backInRead++
		}
	case impl.QuEcho:
		if !now.Replicas[a.Replica].Mute {
			c.woken++
		}
	}
}

// scripted does acts up to MaxScript, looking at the law behind each.
func scripted(t *testing.T, s *stream, replicas int, c *tally) (impl.Service, []impl.QuAct, []int) {
	t.Helper()
	x := newService(t, replicas)
	var acts []impl.QuAct
	var codes, known []int
	for range lastTime {
		a := someQuAct(s, x)
		y, code := serves(t, x, a)
		if a.Kind == impl.QuAsk {
			known = append(known, lastAcknowledged(x))
		}
		wantLawful(t, y, known)
		c.count(x, y, a, code)
		acts, codes, x = append(acts, a), append(codes, code), y
	}
	return x, acts, codes
}

func TestP10WhateverIsDone(t *testing.T) {
	for n := 1; n <= 7; n++ {
		var c tally
		for seed := range 60 {
			s := stream(1000*n + seed)
			x, acts, codes := scripted(t, &s, n, &c)
			y, told, code := impl.ServiceRun(n, acts)
			if code != impl.OK || !slices.Equal(told, codes) || serviceText(y) != serviceText(x) {
				t.Fatalf("ServiceRun of %d and %v is %s, %v, %d, not %s, %v", n, acts, serviceText(y), told, code, serviceText(x), codes)
			}
			full, code := serves(t, x, acts[seed])
			if code != impl.ErrFull || serviceText(full) != serviceText(x) {
				t.Fatalf("behind MaxScript %v is %d, %s", acts[seed], code, serviceText(full))
			}
		}
		if c.writes == 0 || c.reads == 0 || c.behind == 0 || n > 1 && c.backInRead*c.backInWrite == 0 || n > 2 && c.woken < 20 {
			t.Errorf("of %d replicas too little has come about: %+v", n, c)
		}
	}
}

// situation tells services apart, but for the times in which they came about.
func situation(s impl.Service, known []int) string {
	out := fmt.Sprint(s.Replicas, known)
	for _, w := range s.Writes {
		out += fmt.Sprint(w.Acks, w.Ended == -1)
	}
	for _, r := range s.Reads {
		out += fmt.Sprint(r.From, r.Best, r.Ended == -1)
	}
	return out
}

// everyAct lists what can be done to a service of at most so many writes and one read.
func everyAct(s impl.Service, writes int) []impl.QuAct {
	var out []impl.QuAct
	if len(s.Writes) < writes {
		out = append(out, begin(len(s.Writes)))
	}
	if len(s.Reads) == 0 {
		out = append(out, askAll())
	}
	for i := range s.Replicas {
		out = append(out, store(i), reply(i, 0), rollBack(i))
		for j := range s.Replicas {
			out = append(out, echo(i, j))
		}
	}
	return append(out, save(0), restart(0))
}

// Every order of acts that is short enough, of few replicas.
func TestP10EveryShortScript(t *testing.T) {
	type place struct {
		s     impl.Service
		known []int
	}
	for _, c := range []struct{ replicas, writes, steps int }{{1, 3, 12}, {2, 2, 9}, {3, 1, 9}, {3, 2, 8}, {5, 1, 5}} {
		seen := map[string]bool{}
		now := []place{{newService(t, c.replicas), nil}}
		for range c.steps {
			var next []place
			for _, p := range now {
				for _, a := range everyAct(p.s, c.writes) {
					x, code := impl.ServiceStep(p.s, a)
					known := p.known
					if a.Kind == impl.QuAsk {
						known = []int{lastAcknowledged(p.s)}
					}
					if key := situation(x, known); code == impl.OK && !seen[key] {
						seen[key] = true
						wantLawful(t, x, known)
						next = append(next, place{x, known})
					}
				}
			}
			now = next
		}
		t.Logf("%+v: %d services", c, len(seen))
	}
}
