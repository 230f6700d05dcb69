package tests

import (
	"encoding/binary"
	"fmt"
	"maps"
	"slices"
	"testing"

	"loop.example/g00257/impl"
)

const lastCounter = 1000000

var counterEdges = []int{1, 2, 3, 127, 128, 255, 256, 257, 65535, 65536, 65537, lastCounter - 2, lastCounter - 1, lastCounter}

func rootText(k int) string { return fmt.Sprintf("%032d", k) }

func ask(session, seq, volume, counter, k int) impl.Request {
	return impl.Request{Session: session, Seq: seq, Volume: volume, Counter: counter, Root: rootText(k)}
}

func register(volume, counter, k int) impl.Register {
	return impl.Register{Volume: volume, Counter: counter, Root: rootText(k)}
}

func bankText(b impl.Bank) string { return fmt.Sprintf("%x %v", b.Registers, b.Sessions) }

func twoBytes(n int) string { return string(binary.BigEndian.AppendUint16(nil, uint16(n))) }

// bankByRule has the bytes of a bank, also of one that is not right, as far as its numbers fit.
func bankByRule(b impl.Bank) string {
	out := string([]byte{byte(len(b.Registers))})
	for _, r := range b.Registers {
		out += string([]byte{byte(r.Volume)}) + fourBytes(r.Counter) + r.Root
	}
	out += string([]byte{byte(len(b.Sessions))})
	for _, s := range b.Sessions {
		out += twoBytes(s.Id) + twoBytes(s.Seq) + string([]byte{byte(s.Code)}) + fourBytes(s.Mark)
	}
	return out
}

// bankOf has registers of Volumes 10, 20 and so on, all of one Counter, and sessions of Ids 100, 200 and so on, all of one Seq.
func bankOf(registers, counter, sessions, seq int) impl.Bank {
	var b impl.Bank
	for i := range registers {
		b.Registers = append(b.Registers, register(10*(i+1), counter, i))
	}
	for i := range sessions {
		b.Sessions = append(b.Sessions, impl.Session{Id: 100 * (i + 1), Seq: seq, Code: i % 20, Mark: 5 * i})
	}
	return b
}

// ledger is what a bank should be, kept as the plainest thing: by number, in no order.
type ledger struct {
	registers map[int]impl.Register
	sessions  map[int]impl.Session
}

func ledgerOf(b impl.Bank) *ledger {
	l := &ledger{map[int]impl.Register{}, map[int]impl.Session{}}
	for _, r := range b.Registers {
		l.registers[r.Volume] = r
	}
	for _, s := range b.Sessions {
		l.sessions[s.Id] = s
	}
	return l
}

func (l *ledger) bank() impl.Bank {
	var b impl.Bank
	for _, volume := range slices.Sorted(maps.Keys(l.registers)) {
		b.Registers = append(b.Registers, l.registers[volume])
	}
	for _, id := range slices.Sorted(maps.Keys(l.sessions)) {
		b.Sessions = append(b.Sessions, l.sessions[id])
	}
	return b
}

func (l *ledger) tells(r impl.Request) (int, int) {
	s, known := l.sessions[r.Session]
	if known && s.Seq == r.Seq {
		return s.Code, s.Mark
	}
	if known && s.Seq > r.Seq {
		return impl.ErrReplay, 0
	}
	if !known && len(l.sessions) == 6 {
		return impl.ErrMany, 0
	}
	old, there := l.registers[r.Volume]
	told := impl.OK
	if old.Counter == lastCounter {
		told = impl.ErrSpent
	} else if r.Counter <= old.Counter {
		told = impl.ErrStale
	} else if r.Counter != old.Counter+1 {
		told = impl.ErrOrder
	} else if !there && len(l.registers) == 6 {
		told = impl.ErrFull
	} else {
		old = impl.Register{Volume: r.Volume, Counter: r.Counter, Root: r.Root}
		l.registers[r.Volume] = old
	}
	l.sessions[r.Session] = impl.Session{Id: r.Session, Seq: r.Seq, Code: told, Mark: old.Counter}
	return told, old.Counter
}

// advances wants what the ledger of the bank tells.
func advances(t *testing.T, b impl.Bank, r impl.Request) (impl.Bank, int, int) {
	t.Helper()
	l := ledgerOf(b)
	wantTold, wantMark := l.tells(r)
	x, told, mark, code := impl.AdvanceBank(b, r)
	if code != impl.OK || told != wantTold || mark != wantMark {
		t.Fatalf("AdvanceBank of %s and %x tells %d, %d, %d, not %d, %d", bankText(b), r, told, mark, code, wantTold, wantMark)
	}
	if bankText(x) != bankText(l.bank()) || !impl.BankOK(x) {
		t.Fatalf("AdvanceBank of %s and %x, %d, is %s, not %s", bankText(b), r, told, bankText(x), bankText(l.bank()))
	}
	return x, told, mark
}

// tells wants a code and a mark, and the bank as it was if stays is set.
func tells(t *testing.T, why string, b impl.Bank, r impl.Request, wantTold, wantMark int, stays bool) impl.Bank {
	t.Helper()
	x, told, mark := advances(t, b, r)
	if told != wantTold || mark != wantMark || stays != (bankText(x) == bankText(b)) {
		t.Fatalf("%s: AdvanceBank of %s and %x is %s, %d, %d, not %d, %d", why, bankText(b), r, bankText(x), told, mark, wantTold, wantMark)
	}
	return x
}

func advancedBy(t *testing.T, b impl.Bank, list ...impl.Request) impl.Bank {
	t.Helper()
	for _, r := range list {
		b, _, _ = advances(t, b, r)
	}
	return b
}

// runs wants of a list what its requests make of a bank one by one.
func runs(t *testing.T, list []impl.Request) (impl.Bank, []int) {
	t.Helper()
	var b impl.Bank
	var want []int
	for _, r := range list {
		x, told, _ := advances(t, b, r)
		b = x
		want = append(want, told)
	}
	x, codes, code := impl.BankRun(list)
	if code != impl.OK || !slices.Equal(codes, want) || bankText(x) != bankText(b) {
		t.Fatalf("BankRun of %x is %s, %v, %d, not %s, %v", list, bankText(x), codes, code, bankText(b), want)
	}
	return x, codes
}

func TestP9RegistersGoUpByOne(t *testing.T) {
	list := []impl.Request{
		ask(5, 1, 200, 1, 1), ask(9, 1, 3, 1, 2), ask(5, 2, 200, 2, 3), ask(9, 2, 200, 3, 4), ask(1, 1, 3, 2, 5), ask(5, 3, 77, 1, 6),
		ask(1, 2, 200, 3, 7), ask(1, 3, 200, 5, 8), ask(9, 3, 3, 1, 9), ask(9, 4, 3, 3, 10), ask(9, 9, 77, 3, 11), ask(5, 4, 8, 2, 12),
	}
	b, codes := runs(t, list)
	want := []int{0, 0, 0, 0, 0, 0, impl.ErrStale, impl.ErrOrder, impl.ErrStale, 0, impl.ErrOrder, impl.ErrOrder}
	is := impl.Bank{
		Registers: []impl.Register{register(3, 3, 10), register(77, 1, 6), register(200, 3, 4)},
		Sessions:  []impl.Session{{Id: 1, Seq: 3, Code: impl.ErrOrder, Mark: 3}, {Id: 5, Seq: 4, Code: impl.ErrOrder}, {Id: 9, Seq: 9, Code: impl.ErrOrder, Mark: 1}},
	}
	if !slices.Equal(codes, want) || bankText(b) != bankText(is) {
		t.Errorf("BankRun is %s, %v", bankText(b), codes)
	}
	for _, r := range is.Registers {
		if x, code := impl.ReadRegister(b, r.Volume); x != r || code != impl.OK {
			t.Errorf("ReadRegister of %d is %x, %d", r.Volume, x, code)
		}
	}
}

func TestP9ManySteps(t *testing.T) {
	b := impl.Bank{}
	for i := 1; i <= 300; i++ {
		b = tells(t, "up", b, ask(i%6, i, 4, i, i), impl.OK, i, false)
		if b.Registers[0] != register(4, i, i) || len(b.Registers) != 1 {
			t.Fatalf("step %d is %s", i, bankText(b))
		}
	}
}

func TestP9CountersAroundARegister(t *testing.T) {
	for _, counter := range counterEdges {
		b := bankOf(3, counter, 2, 7)
		for _, next := range append([]int{counter - 2, counter - 1, counter, counter + 1, counter + 2, counter + 256}, counterEdges...) {
			if next < 1 || next > lastCounter {
				continue
			}
			r := ask(200, 8, 20, next, 99)
			switch {
			case counter == lastCounter:
				tells(t, "spent", b, r, impl.ErrSpent, lastCounter, false)
			case next <= counter:
				tells(t, "not above", b, r, impl.ErrStale, counter, false)
			case next == counter+1:
				x := tells(t, "the next one", b, r, impl.OK, next, false)
				if got, code := impl.ReadRegister(x, 20); got != register(20, next, 99) || code != impl.OK {
					t.Errorf("ReadRegister is %x, %d", got, code)
				}
			default:
				tells(t, "above the next one", b, r, impl.ErrOrder, counter, false)
			}
		}
	}
	for _, next := range counterEdges {
		if next == 1 {
			tells(t, "the first one", bankOf(3, 5, 2, 7), ask(200, 8, 21, 1, 99), impl.OK, 1, false)
		} else {
			tells(t, "not the first one", bankOf(3, 5, 2, 7), ask(200, 8, 21, next, 99), impl.ErrOrder, 0, false)
		}
	}
}

func TestP9TheLastCounter(t *testing.T) {
	b := bankOf(1, lastCounter-1, 0, 0)
	b = tells(t, "two more", b, ask(1, 1, 10, lastCounter-1, 1), impl.ErrStale, lastCounter-1, false)
	b = tells(t, "the last one", b, ask(1, 2, 10, lastCounter, 2), impl.OK, lastCounter, false)
	b = tells(t, "the last one again", b, ask(1, 2, 10, lastCounter, 2), impl.OK, lastCounter, true)
	for i, counter := range counterEdges {
		b = tells(t, "behind the last one", b, ask(1, 3+i, 10, counter, 3), impl.ErrSpent, lastCounter, false)
		b = tells(t, "behind the last one, again", b, ask(1, 3+i, 10, counter, 3), impl.ErrSpent, lastCounter, true)
	}
	if b.Registers[0] != register(10, lastCounter, 2) {
		t.Errorf("the last register is %s", bankText(b))
	}
}

func TestP9SeqsAroundASession(t *testing.T) {
	for _, seq := range []int{1, 2, 255, 256, 257, 32768, 65534, 65535} {
		b := impl.Bank{Registers: bankOf(2, 4, 0, 0).Registers, Sessions: []impl.Session{{Id: 3, Seq: seq, Code: impl.ErrAway, Mark: 77}}}
		for _, own := range []int{1, seq - 256, seq - 2, seq - 1, seq, seq + 1, seq + 2, seq + 256, 65535} {
			if own < 1 || own > 65535 {
				continue
			}
			r := ask(3, own, 20, 5, 9)
			switch {
			case own < seq:
				tells(t, "lower", b, r, impl.ErrReplay, 0, true)
			case own == seq:
				tells(t, "the same", b, r, impl.ErrAway, 77, true)
			default:
				x := tells(t, "higher", b, r, impl.OK, 5, false)
				tells(t, "the same then", x, r, impl.OK, 5, true)
				tells(t, "lower then", x, ask(3, seq, 20, 6, 9), impl.ErrReplay, 0, true)
			}
		}
	}
}

// others are requests of the same session and Seq that ask for something else.
func others(r impl.Request) []impl.Request {
	up, down, volume, root, all := r, r, r, r, r
	up.Counter = min(r.Counter+1, lastCounter)
	down.Counter = max(r.Counter-1, 1)
	volume.Volume = 255 - r.Volume
	root.Root = rootText(4444)
	all.Volume, all.Counter, all.Root = 9, 1, rootText(5555)
	return []impl.Request{r, up, down, volume, root, all}
}

// What was told last to a session is told again, however much others were told since, and whatever is asked for under its Seq.
func TestP9WhatComesAgainBehindOthers(t *testing.T) {
	list := []impl.Request{
		ask(1, 1, 7, 1, 0), ask(2, 1, 7, 1, 1), ask(3, 4, 7, 3, 2), ask(4, 1, 7, 2, 3), ask(1, 2, 3, 1, 4), ask(2, 3, 7, 3, 5), ask(5, 9, 8, 1, 6),
		ask(4, 2, 3, 2, 7), ask(1, 7, 3, 3, 8), ask(6, 1, 7, 4, 9), ask(6, 2, 7, 4, 10), ask(0, 1, 8, 2, 11), ask(7, 1, 8, 2, 12), ask(5, 10, 8, 2, 13),
	}
	var b impl.Bank
	type answered struct{ seq, told, mark int }
	last := map[int]answered{}
	for i, r := range list {
		x, told, mark := advances(t, b, r)
		b = x
		if told != impl.ErrMany {
			last[r.Session] = answered{r.Seq, told, mark}
		}
		for _, old := range list[:i+1] {
			was, known := last[old.Session]
			for _, again := range others(old) {
				switch {
				case !known:
					tells(t, "no room still", b, again, impl.ErrMany, 0, true)
				case was.seq == old.Seq:
					tells(t, "again", b, again, was.told, was.mark, true)
				default:
					tells(t, "again, behind a later one", b, again, impl.ErrReplay, 0, true)
				}
			}
		}
	}
}

// A request that comes again any number of times leaves what a run of each one alone leaves.
func TestP9RunsWithEachRequestTwice(t *testing.T) {
	for seed := range 100 {
		s := stream(seed)
		var once, twice []impl.Request
		seqs := [8]int{}
		for range 40 {
			r := someRequest(&s)
			seqs[r.Session%8] += 1 + int(s.next())%3
			r.Session, r.Seq = r.Session%8, seqs[r.Session%8]
			once = append(once, r)
			twice = append(twice, others(r)[0], others(r)[s.next()%6])
		}
		b, codes := runs(t, once)
		x, both := runs(t, twice)
		if bankText(b) != bankText(x) {
			t.Fatalf("seed %d: twice is %s, once %s", seed, bankText(x), bankText(b))
		}
		for i, told := range codes {
			if both[2*i] != told || both[2*i+1] != told {
				t.Fatalf("seed %d: request %d is told %d, then %d, and alone %d", seed, i, both[2*i], both[2*i+1], told)
			}
		}
	}
}

func TestP9ASessionTellsWhateverItHas(t *testing.T) {
	for code := range 20 {
		for _, mark := range []int{0, 1, 500, lastCounter - 1, lastCounter} {
			for _, registers := range []int{0, 1, 6} {
				b := bankOf(registers, 3, 6, 50)
				b.Sessions[3].Code, b.Sessions[3].Mark = code, mark
				for _, again := range others(ask(400, 50, 10, 4, 1)) {
					tells(t, "again", b, again, code, mark, true)
				}
			}
		}
	}
}

// A code that was told takes the Seq, too: to ask for the right thing under it is too late.
func TestP9ACodeIsToldAgain(t *testing.T) {
	for _, c := range []struct {
		first      impl.Request
		told, mark int
	}{
		{ask(100, 8, 10, 4, 1), impl.ErrStale, 4}, {ask(100, 8, 10, 3, 1), impl.ErrStale, 4}, {ask(100, 8, 10, 6, 1), impl.ErrOrder, 4},
		{ask(100, 8, 11, 1, 1), impl.ErrFull, 0}, {ask(100, 8, 11, 2, 1), impl.ErrOrder, 0},
	} {
		b := tells(t, "a code", bankOf(6, 4, 6, 7), c.first, c.told, c.mark, false)
		if b.Sessions[0] != (impl.Session{Id: 100, Seq: 8, Code: c.told, Mark: c.mark}) {
			t.Errorf("the session is %v", b.Sessions[0])
		}
		b = tells(t, "the right one of the same Seq", b, ask(100, 8, 10, 5, 2), c.told, c.mark, true)
		b = tells(t, "another session", b, ask(200, 8, 10, 5, 3), impl.OK, 5, false)
		b = tells(t, "a code, behind it", b, c.first, c.told, c.mark, true)
		tells(t, "the next Seq", b, ask(100, 9, 10, 6, 4), impl.OK, 6, false)
	}
}

func TestP9RoomForRegistersAndSessions(t *testing.T) {
	for registers := range 7 {
		for sessions := range 7 {
			b := bankOf(registers, 4, sessions, 7)
			for _, id := range []int{0, 50, 100, 150, 600, 650, 65535} {
				for _, volume := range []int{0, 5, 10, 15, 60, 65, 255} {
					for _, counter := range []int{1, 2, 4, 5, 6, lastCounter} {
						for _, seq := range []int{1, 6, 7, 8, 65535} {
							advances(t, b, ask(id, seq, volume, counter, 9))
						}
					}
				}
			}
		}
	}
	full := bankOf(6, 4, 6, 7)
	tells(t, "no session, no register", full, ask(1, 1, 1, 1, 9), impl.ErrMany, 0, true)
	tells(t, "no session, and stale", full, ask(1, 1, 10, 1, 9), impl.ErrMany, 0, true)
	tells(t, "no session", full, ask(1, 1, 10, 5, 9), impl.ErrMany, 0, true)
	tells(t, "no register", full, ask(300, 8, 1, 1, 9), impl.ErrFull, 0, false)
	tells(t, "no register, and two above", full, ask(300, 8, 1, 2, 9), impl.ErrOrder, 0, false)
	tells(t, "both there", full, ask(300, 8, 60, 5, 9), impl.OK, 5, false)
	tells(t, "no register, and it came before", full, ask(300, 6, 1, 1, 9), impl.ErrReplay, 0, true)
	spent := bankOf(6, lastCounter, 6, 7)
	tells(t, "spent, no session", spent, ask(1, 1, 10, 1, 9), impl.ErrMany, 0, true)
	tells(t, "spent, it came before", spent, ask(100, 6, 10, 1, 9), impl.ErrReplay, 0, true)
	tells(t, "no register beside spent ones", spent, ask(100, 8, 11, 1, 9), impl.ErrFull, 0, false)
}

// A register or session more stands where it belongs, wherever that is.
func TestP9EachPlaceOfANewOne(t *testing.T) {
	for n := range 6 {
		for at := range n + 1 {
			b := bankOf(n, 4, n, 7)
			x := tells(t, "new", b, ask(100*at+50, 1, 10*at+5, 1, 9), impl.OK, 1, false)
			want := bankOf(n, 4, n, 7)
			want.Registers = slices.Insert(want.Registers, at, register(10*at+5, 1, 9))
			want.Sessions = slices.Insert(want.Sessions, at, impl.Session{Id: 100*at + 50, Seq: 1, Mark: 1})
			if bankText(x) != bankText(want) {
				t.Errorf("a new one at %d of %d is %s", at, n, bankText(x))
			}
		}
		for at := range n {
			x := tells(t, "there", bankOf(n, 4, n, 7), ask(100*at+100, 9, 10*at+10, 5, 9), impl.OK, 5, false)
			want := bankOf(n, 4, n, 7)
			want.Registers[at] = register(10*at+10, 5, 9)
			want.Sessions[at] = impl.Session{Id: 100*at + 100, Seq: 9, Mark: 5}
			if bankText(x) != bankText(want) {
				t.Errorf("the one at %d of %d is %s", at, n, bankText(x))
			}
		}
	}
}

func TestP9TheEdgesOfNumbers(t *testing.T) {
	var b impl.Bank
	for i, volume := range []int{0, 255, 1, 254} {
		b = tells(t, "a volume", b, ask(65535*(i%2), 1+i, volume, 1, i), impl.OK, 1, false)
	}
	b = tells(t, "the last Seq", b, ask(65535, 65535, 255, 2, 7), impl.OK, 2, false)
	b = tells(t, "the last Seq again", b, ask(65535, 65535, 255, 3, 8), impl.OK, 2, true)
	b = tells(t, "behind the last Seq", b, ask(65535, 1, 255, 3, 8), impl.ErrReplay, 0, true)
	b = tells(t, "behind the last Seq", b, ask(65535, 65534, 255, 3, 8), impl.ErrReplay, 0, true)
	if len(b.Registers) != 4 || b.Registers[3] != register(255, 2, 7) || b.Sessions[1] != (impl.Session{Id: 65535, Seq: 65535, Mark: 2}) {
		t.Errorf("the bank is %s", bankText(b))
	}
	readBack(t, b)
}

func someRequest(s *stream) impl.Request {
	return ask(int(s.next())%8, 1+int(s.next())%12, 3*(int(s.next())%8), 1+int(s.next())%4, int(s.next()))
}

// Of each register told by its Root: it is changed by what is told OK alone, and its Counter goes up by one with it.
func TestP9WhateverIsAsked(t *testing.T) {
	for seed := range 150 {
		s := stream(seed)
		var list []impl.Request
		b := bankOf(int(s.next())%7, 1+int(s.next())%3, int(s.next())%7, 1+int(s.next())%3)
		for range 100 {
			r := someRequest(&s)
			if s.next() < 50 {
				r.Session, r.Volume = 100*(1+r.Session%6), 10*(1+r.Volume%6)
			}
			list = append(list, r)
			was, _ := impl.ReadRegister(b, r.Volume)
			x, told, _ := advances(t, b, r)
			now, _ := impl.ReadRegister(x, r.Volume)
			if now != was && (told != impl.OK || now.Counter != was.Counter+1 || now.Root != r.Root) {
				t.Fatalf("seed %d: %x is told %d, and makes %x of %x", seed, r, told, now, was)
			}
			b = x
		}
		readBack(t, b)
		runs(t, list)
	}
}

func TestP9RunsBeginFromNothing(t *testing.T) {
	list := []impl.Request{ask(1, 1, 1, 1, 1), ask(1, 2, 1, 2, 2)}
	for range 3 {
		b, codes := runs(t, list)
		if !slices.Equal(codes, []int{0, 0}) || bankText(b) != bankText(advancedBy(t, impl.Bank{}, list...)) || len(b.Registers) != 1 || b.Registers[0] != register(1, 2, 2) {
			t.Errorf("BankRun is %s, %v", bankText(b), codes)
		}
	}
	var long []impl.Request
	for i := range impl.MaxActs {
		long = append(long, ask(i%7, 1+i, i%7, 1+i/7, i))
	}
	b, codes := runs(t, long)
	if len(codes) != impl.MaxActs || codes[6] != impl.ErrMany || codes[119] != impl.OK || b.Registers[0].Counter != 18 {
		t.Errorf("BankRun of MaxActs is %s, %v", bankText(b), codes)
	}
}

// readBack goes by the bytes and back, and by the rule.
func readBack(t *testing.T, b impl.Bank) {
	t.Helper()
	x, code := impl.BankBytes(b)
	if code != impl.OK || string(x) != bankByRule(b) {
		t.Fatalf("BankBytes of %s is %x, %d", bankText(b), x, code)
	}
	y, code := impl.ReadBank(x)
	if code != impl.OK || bankText(y) != bankText(b) {
		t.Fatalf("ReadBank of %s is %s, %d", bankText(b), bankText(y), code)
	}
}

func TestP9BanksAreReadBack(t *testing.T) {
	for registers := range 7 {
		for sessions := range 7 {
			for i, counter := range counterEdges {
				b := bankOf(registers, counter, sessions, []int{1, 2, 255, 256, 65534, 65535}[i%6])
				for j := range b.Sessions {
					b.Sessions[j].Code, b.Sessions[j].Mark = (i+j)%20, counter
				}
				readBack(t, b)
			}
		}
	}
	s := stream(91)
	for range 200 {
		b := bankOf(int(s.next())%7, 1, int(s.next())%7, 1)
		for i := range b.Registers {
			b.Registers[i] = impl.Register{Volume: 42*i + int(s.next())%42, Counter: counterEdges[s.next()%14], Root: s.text(32)}
		}
		for i := range b.Sessions {
			b.Sessions[i] = impl.Session{Id: 10000*i + 39*int(s.next()), Seq: 1 + 257*int(s.next())%65535, Code: int(s.next()) % 20, Mark: 3921 * int(s.next())}
		}
		if !impl.BankOK(b) {
			t.Fatalf("BankOK of %s is false", bankText(b))
		}
		readBack(t, b)
	}
	empty, code := impl.BankBytes(impl.Bank{})
	if string(empty) != "\x00\x00" || code != impl.OK {
		t.Errorf("BankBytes of nothing is %x, %d", empty, code)
	}
}

// A bank that went by its bytes answers what comes again as the one that it was.
func TestP9WhatComesAgainBehindBytes(t *testing.T) {
	first := []impl.Request{ask(1, 1, 7, 1, 0), ask(2, 5, 7, 1, 1), ask(3, 1, 7, 2, 2), ask(1, 2, 9, 1, 3), ask(2, 6, 7, 9, 4)}
	b := advancedBy(t, impl.Bank{}, first...)
	x, _ := impl.BankBytes(b)
	back, code := impl.ReadBank(x)
	if code != impl.OK {
		t.Fatal("ReadBank is", code)
	}
	tells(t, "again", back, ask(1, 2, 9, 1, 3), impl.OK, 1, true)
	tells(t, "again", back, ask(2, 6, 7, 9, 4), impl.ErrOrder, 2, true)
	tells(t, "again", back, ask(3, 1, 7, 3, 2), impl.OK, 2, true)
	tells(t, "came before", back, ask(1, 1, 7, 1, 0), impl.ErrReplay, 0, true)
	tells(t, "the next one", back, ask(3, 2, 7, 3, 2), impl.OK, 3, false)
}
