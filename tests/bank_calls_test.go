package tests

import (
	"fmt"
	"math"
	"slices"
	"strings"
	"testing"

	"loop.example/g00257/impl"
)

var (
	// noCounters hold numbers that no register has, the nearest and the farthest ones, and such as would be right if they were cut.
	noCounters = []int{0, -1, lastCounter + 1, lastCounter + 2, -lastCounter, 1<<32 + 1, 1<<32 + 5, -1<<32 + 5, math.MinInt, math.MinInt + 1, math.MaxInt - 1, math.MaxInt}

	noMarks = noCounters[1:]

	// noShort hold numbers that two bytes do not hold.
	noShort = []int{-1, 65536, -2, 65537, -65535, -65536, 1 << 17, 1<<16 + 5, 1<<32 + 5, -1<<32 + 5, math.MinInt, math.MaxInt}

	noCodes = []int{-1, 20, 21, -19, 255, 256, 1<<32 + 1, math.MinInt, math.MaxInt}

	noRoots = []string{"", "r", rootText(1)[:31], rootText(1) + "0", rootText(1) + rootText(1), longText[:impl.MaxText], longText}
)

func rightBanks() []impl.Bank {
	out := []impl.Bank{{}, {Registers: []impl.Register{}, Sessions: []impl.Session{}}}
	for n := range 7 {
		out = append(out, bankOf(n, 1, 0, 0), bankOf(0, 0, n, 1), bankOf(n, lastCounter, 6-n, 65535), bankOf(n, 5, n, 5))
	}
	for _, volume := range []int{0, 1, 254, 255} {
		out = append(out, impl.Bank{Registers: []impl.Register{register(volume, 1, 1)}})
	}
	for _, root := range []string{strings.Repeat("\x00", 32), strings.Repeat("\xff", 32)} {
		out = append(out, impl.Bank{Registers: []impl.Register{{Volume: 1, Counter: 1, Root: root}}})
	}
	for _, id := range []int{0, 1, 255, 256, 65534, 65535} {
		for _, seq := range []int{1, 2, 65534, 65535} {
			out = append(out, impl.Bank{Sessions: []impl.Session{{Id: id, Seq: seq}}})
		}
	}
	for _, code := range []int{0, 1, 18, 19} {
		for _, mark := range []int{0, 1, lastCounter - 1, lastCounter} {
			out = append(out, impl.Bank{Sessions: []impl.Session{{Id: 1, Seq: 1, Code: code, Mark: mark}}})
		}
	}
	near := impl.Bank{Registers: []impl.Register{register(0, 1, 1), register(1, 1, 1), register(255, 1, 1)}, Sessions: []impl.Session{{Id: 0, Seq: 1}, {Id: 1, Seq: 1}, {Id: 65535, Seq: 1}}}
	return append(out, near)
}

// brokenBanks are banks of three registers and three sessions, of which one, at any place, was made wrong.
func brokenBanks() []impl.Bank {
	var out []impl.Bank
	for i := range 3 {
		reg := func(change func(*impl.Register)) {
			b := bankOf(3, 4, 3, 7)
			change(&b.Registers[i])
			out = append(out, b)
		}
		session := func(change func(*impl.Session)) {
			b := bankOf(3, 4, 3, 7)
			change(&b.Sessions[i])
			out = append(out, b)
		}
		for _, n := range noByte {
			reg(func(r *impl.Register) { r.Volume = n })
		}
		for _, n := range noCounters {
			reg(func(r *impl.Register) { r.Counter = n })
		}
		for _, root := range noRoots {
			reg(func(r *impl.Register) { r.Root = root })
		}
		for _, n := range noShort {
			session(func(s *impl.Session) { s.Id = n })
			session(func(s *impl.Session) { s.Seq = n })
		}
		session(func(s *impl.Session) { s.Seq = 0 })
		for _, n := range noCodes {
			session(func(s *impl.Session) { s.Code = n })
		}
		for _, n := range noMarks {
			session(func(s *impl.Session) { s.Mark = n })
		}
		reg(func(r *impl.Register) { *r = impl.Register{} })
		session(func(s *impl.Session) { *s = impl.Session{} })
	}
	return out
}

// unorderedBanks have right registers and sessions that do not rise, are there twice, or are too many; their numbers fit into bytes.
func unorderedBanks() []impl.Bank {
	var out []impl.Bank
	for n := 2; n <= 6; n++ {
		for i := range n - 1 {
			regs, sessions := bankOf(n, 4, n, 7), bankOf(n, 4, n, 7)
			regs.Registers[i], regs.Registers[i+1] = regs.Registers[i+1], regs.Registers[i]
			sessions.Sessions[i], sessions.Sessions[i+1] = sessions.Sessions[i+1], sessions.Sessions[i]
			volumes, ids := bankOf(n, 4, n, 7), bankOf(n, 4, n, 7)
			volumes.Registers[i+1].Volume = volumes.Registers[i].Volume
			ids.Sessions[i+1].Id = ids.Sessions[i].Id
			twice, both := bankOf(n, 4, n, 7), bankOf(n, 4, n, 7)
			twice.Registers[i+1] = twice.Registers[i]
			both.Sessions[i+1] = both.Sessions[i]
			out = append(out, regs, sessions, volumes, ids, twice, both)
		}
	}
	for _, n := range []int{7, 8, 20} {
		out = append(out, bankOf(n, 4, 0, 0), bankOf(0, 0, n, 7), bankOf(n, 4, 6, 7), bankOf(6, 4, n, 7), bankOf(n, 4, n, 7))
	}
	return out
}

func wrongBanks() []impl.Bank {
	many := bankOf(1, 4, 1, 7)
	many.Registers = slices.Repeat(many.Registers, impl.MaxList+1)
	more := bankOf(1, 4, 1, 7)
	more.Sessions = slices.Repeat(more.Sessions, impl.MaxList+1)
	all := bankOf(7, lastCounter+1, 7, 65536)
	all.Registers[0].Root = longText
	return slices.Concat(brokenBanks(), unorderedBanks(), []impl.Bank{many, more, all})
}

// wrongRequests have one fault each, but for the last ones.
func wrongRequests() []impl.Request {
	var out []impl.Request
	for _, n := range noShort {
		out = append(out, ask(n, 8, 10, 5, 1), ask(100, n, 10, 5, 1))
	}
	for _, n := range noByte {
		out = append(out, ask(100, 8, n, 5, 1))
	}
	for _, n := range noCounters {
		out = append(out, ask(100, 8, 10, n, 1))
	}
	for _, root := range noRoots {
		out = append(out, impl.Request{Session: 100, Seq: 8, Volume: 10, Counter: 5, Root: root}, impl.Request{Session: 100, Seq: 7, Volume: 10, Counter: 5, Root: root})
	}
	return append(out, ask(100, 0, 10, 5, 1), impl.Request{}, ask(-1, 0, 256, 0, 1), impl.Request{Session: -1, Seq: 65536, Volume: -1, Counter: -1, Root: longText})
}

func TestP1RightBanks(t *testing.T) {
	if impl.MaxVolumes != 6 || impl.MaxSessions != 6 || impl.MaxCounter != lastCounter {
		t.Error("MaxVolumes, MaxSessions and MaxCounter are", impl.MaxVolumes, impl.MaxSessions, impl.MaxCounter)
	}
	for _, b := range rightBanks() {
		if !impl.BankOK(b) {
			t.Errorf("BankOK of %s is false", bankText(b))
		}
		readBack(t, b)
	}
	for _, b := range wrongBanks() {
		if impl.BankOK(b) {
			t.Errorf("BankOK of %.300s is true", bankText(b))
		}
	}
}

func advancesNothing(t *testing.T, why string, b impl.Bank, r impl.Request) {
	t.Helper()
	x, told, mark, code := impl.AdvanceBank(b, r)
	if len(x.Registers) != 0 || len(x.Sessions) != 0 || told != 0 || mark != 0 || code != impl.ErrBad {
		t.Errorf("%s: AdvanceBank of %.300s and %.300x is %.300s, %d, %d, %d", why, bankText(b), r, bankText(x), told, mark, code)
	}
}

func TestP1BanksThatAreNotRight(t *testing.T) {
	for _, b := range wrongBanks() {
		for _, volume := range []int{10, 20, 11, 0, 255, -1, 256, math.MinInt, math.MaxInt} {
			if r, code := impl.ReadRegister(b, volume); r != (impl.Register{}) || code != impl.ErrBad {
				t.Errorf("ReadRegister of %.300s and %d is %.200x, %d", bankText(b), volume, r, code)
			}
		}
		for _, r := range []impl.Request{ask(100, 8, 10, 5, 1), ask(100, 7, 10, 5, 1), ask(100, 6, 10, 5, 1), ask(9, 1, 9, 1, 1), {}, ask(100, 8, 10, 0, 1)} {
			advancesNothing(t, "a bank that is not right", b, r)
		}
		if x, code := impl.BankBytes(b); len(x) != 0 || code != impl.ErrBad {
			t.Errorf("BankBytes of %.300s is %.200x, %d", bankText(b), x, code)
		}
	}
}

// What is wrong is refused ahead of all that a bank tells, also of what comes again.
func TestP1RequestsThatAreNotRight(t *testing.T) {
	banks := append(rightBanks(), bankOf(6, lastCounter, 6, 7), bankOf(6, 4, 6, 8))
	banks = append(banks, wrongBanks()[:20]...)
	for _, r := range wrongRequests() {
		for _, b := range banks {
			advancesNothing(t, "a request that is not right", b, r)
		}
	}
}

func TestP1VolumesWithoutARegister(t *testing.T) {
	for n := range 7 {
		b := bankOf(n, 4, 3, 7)
		for volume := -300; volume < 600; volume++ {
			r, code := impl.ReadRegister(b, volume)
			if there := volume%10 == 0 && volume >= 10 && volume <= 10*n; there && (r != b.Registers[volume/10-1] || code != impl.OK) || !there && (r != (impl.Register{}) || code != impl.ErrNone) {
				t.Errorf("ReadRegister of %d of %d registers is %x, %d", volume, n, r, code)
			}
		}
		for _, volume := range append([]int{1<<32 + 10, 1<<8 + 10, -1<<32 + 10}, noByte...) {
			if r, code := impl.ReadRegister(b, volume); r != (impl.Register{}) || code != impl.ErrNone {
				t.Errorf("ReadRegister of %d is %x, %d", volume, r, code)
			}
		}
	}
}

func bankRunIs(t *testing.T, why string, list []impl.Request, want int) {
	t.Helper()
	b, codes, code := impl.BankRun(list)
	if code != want || want != impl.OK && (len(codes) != 0 || len(b.Registers) != 0 || len(b.Sessions) != 0) || want == impl.OK && len(codes) != len(list) {
		t.Errorf("%s: BankRun of %d requests is %.200s, %d codes, %d, not %d", why, len(list), bankText(b), len(codes), code, want)
	}
}

func TestP1RunsOfRequests(t *testing.T) {
	for _, n := range []int{0, 1, 2, 119, 120, 121, 122, 1000, 4095, 4096, 4097, 5000, 70000} {
		right := slices.Repeat([]impl.Request{ask(1, 1, 1, 1, 1)}, n)
		want, wrong := impl.OK, impl.ErrBad
		if n > 120 {
			want, wrong = impl.ErrMany, impl.ErrMany
		}
		if n > 4096 {
			want, wrong = impl.ErrLong, impl.ErrLong
		}
		bankRunIs(t, "right ones", right, want)
		if n == 0 {
			continue
		}
		for _, r := range wrongRequests() {
			for _, at := range []int{0, n / 2, n - 1} {
				right[at] = r
				bankRunIs(t, "a wrong one", right, wrong)
				right[at] = ask(1, 1, 1, 1, 1)
			}
		}
		bankRunIs(t, "wrong ones alone", make([]impl.Request, n), wrong)
	}
	for _, list := range [][]impl.Request{nil, {}} {
		if b, codes, code := impl.BankRun(list); len(codes) != 0 || code != impl.OK || bankText(b) != bankText(impl.Bank{}) {
			t.Errorf("BankRun of nothing is %s, %v, %d", bankText(b), codes, code)
		}
	}
}

func TestP1NoListAndAnEmptyOneAreOneBank(t *testing.T) {
	empty := impl.Bank{Registers: []impl.Register{}, Sessions: []impl.Session{}}
	r := ask(1, 1, 1, 1, 1)
	x, _, _, _ := impl.AdvanceBank(empty, r)
	y, _, _, _ := impl.AdvanceBank(impl.Bank{}, r)
	if bankText(x) != bankText(y) || len(x.Registers) != 1 {
		t.Errorf("AdvanceBank of empty lists is %s, of none %s", bankText(x), bankText(y))
	}
	readBack(t, empty)
}

func noBank(t *testing.T, why, b string, want int) {
	t.Helper()
	if x, code := impl.ReadBank([]byte(b)); len(x.Registers) != 0 || len(x.Sessions) != 0 || code != want {
		t.Errorf("%s: ReadBank of %d bytes, %.200x, is %.300s, %d, not %d", why, len(b), b, bankText(x), code, want)
	}
}

func TestP1BytesThatAreNoBank(t *testing.T) {
	for _, b := range rightBanks() {
		whole := bankByRule(b)
		for n := range len(whole) {
			noBank(t, "cut short", whole[:n], impl.ErrForm)
		}
		for _, more := range []string{"\x00", "\x01", "\x00\x00", whole, strings.Repeat("\x00", 9), strings.Repeat("\x00", 37), longText[:impl.MaxText-len(whole)]} {
			noBank(t, "goes on", whole+more, impl.ErrForm)
		}
		second := 1 + 37*len(b.Registers)
		for n := range 256 {
			if n != len(b.Registers) {
				noBank(t, "another number of registers", string([]byte{byte(n)})+whole[1:], impl.ErrForm)
			}
			if n != len(b.Sessions) {
				noBank(t, "another number of sessions", whole[:second]+string([]byte{byte(n)})+whole[second+1:], impl.ErrForm)
			}
		}
		noBank(t, "long", whole+longText, impl.ErrLong)
	}
	noBank(t, "nothing", "", impl.ErrForm)
	for _, c := range []string{"\x00", "\xff", "\x07", "\x00\x01", "\x00\xff"} {
		noBank(t, "one byte again and again", c+strings.Repeat(c[len(c)-1:], impl.MaxText-len(c)), impl.ErrForm)
		noBank(t, "one byte too many", c+strings.Repeat(c[len(c)-1:], impl.MaxText+1-len(c)), impl.ErrLong)
	}
	noBank(t, "long", longText, impl.ErrLong)
	noBank(t, "longer", longText+longText, impl.ErrLong)
	if x, code := impl.ReadBank(nil); len(x.Registers) != 0 || len(x.Sessions) != 0 || code != impl.ErrForm {
		t.Errorf("ReadBank of nil is %s, %d", bankText(x), code)
	}
}

func TestP1BytesOfBanksThatAreNotRight(t *testing.T) {
	for _, b := range unorderedBanks() {
		noBank(t, "unordered", bankByRule(b), impl.ErrForm)
	}
	for i := range 3 {
		for _, counter := range []int{0, lastCounter + 1, 1 << 24, 1 << 31, math.MaxUint32} {
			b := bankOf(3, 4, 3, 7)
			b.Registers[i].Counter = counter
			noBank(t, "no Counter", bankByRule(b), impl.ErrForm)
		}
		for _, mark := range []int{lastCounter + 1, 1 << 24, 1 << 31, math.MaxUint32} {
			b := bankOf(3, 4, 3, 7)
			b.Sessions[i].Mark = mark
			noBank(t, "no Mark", bankByRule(b), impl.ErrForm)
		}
		for _, code := range []int{20, 21, 127, 128, 255} {
			b := bankOf(3, 4, 3, 7)
			b.Sessions[i].Code = code
			noBank(t, "no Code", bankByRule(b), impl.ErrForm)
		}
		b := bankOf(3, 4, 3, 7)
		b.Sessions[i].Seq = 0
		noBank(t, "no Seq", bankByRule(b), impl.ErrForm)
		for _, root := range []string{"", rootText(1)[:31], rootText(1) + "0"} {
			b := bankOf(3, 4, 3, 7)
			b.Registers[i].Root = root
			noBank(t, "no Root", bankByRule(b), impl.ErrForm)
		}
	}
}

// Whatever bytes are a bank are just those of the bank that they tell.
func TestP1BytesWithOneBitChanged(t *testing.T) {
	for _, b := range []impl.Bank{{}, bankOf(1, 1, 1, 1), bankOf(3, 255, 3, 256), bankOf(6, lastCounter, 6, 65535)} {
		whole := bankByRule(b)
		for bit := range 8 * len(whole) {
			changed := withBit(whole, bit)
			x, code := impl.ReadBank([]byte(changed))
			if code == impl.OK && (bankByRule(x) != changed || !impl.BankOK(x)) || code != impl.OK && (code != impl.ErrForm || len(x.Registers)+len(x.Sessions) != 0) {
				t.Fatalf("ReadBank of %x is %s, %d", changed, bankText(x), code)
			}
			if inRoot := bit/8 > 0 && bit/8 <= 37*len(b.Registers) && (bit/8-1)%37 >= 5; inRoot && code != impl.OK {
				t.Fatalf("ReadBank with another Root is %d", code)
			}
		}
	}
}

// roomyBank has room behind the ends of its lists that nothing may be written into; the answer tells all of that memory.
func roomyBank(b impl.Bank) (impl.Bank, func() string) {
	registers := append(slices.Clone(b.Registers), register(98, 7, 98), register(99, 7, 99))
	sessions := append(slices.Clone(b.Sessions), impl.Session{Id: 9998, Seq: 9}, impl.Session{Id: 9999, Seq: 9})
	b = impl.Bank{Registers: registers[:len(b.Registers)], Sessions: sessions[:len(b.Sessions)]}
	return b, func() string { return bankText(impl.Bank{Registers: registers, Sessions: sessions}) }
}

// spoilBank writes over all memory of a bank's lists, and behind their ends.
func spoilBank(b impl.Bank) {
	registers, sessions := b.Registers[:cap(b.Registers)], b.Sessions[:cap(b.Sessions)]
	for i := range registers {
		registers[i] = impl.Register{Volume: -9, Counter: -9, Root: "spoilt"}
	}
	for i := range sessions {
		sessions[i] = impl.Session{Id: -9, Seq: -9, Code: -9, Mark: -9}
	}
}

func TestP1BanksStayAsTheyWere(t *testing.T) {
	requests := []impl.Request{
		ask(100, 7, 10, 5, 1), ask(100, 6, 10, 5, 1), ask(50, 1, 10, 5, 1), ask(100, 8, 10, 5, 1), ask(100, 8, 5, 1, 1), ask(650, 1, 65, 1, 1),
		ask(50, 1, 5, 1, 1), ask(100, 8, 10, 4, 1), ask(100, 8, 10, 9, 1), ask(350, 8, 35, 1, 1), {},
	}
	for _, start := range append(rightBanks(), wrongBanks()...) {
		for _, r := range requests {
			b, whole := roomyBank(start)
			was := whole()
			impl.BankOK(b)
			impl.ReadRegister(b, r.Volume)
			impl.BankBytes(b)
			x, told, _, code := impl.AdvanceBank(b, r)
			if whole() != was {
				t.Fatalf("AdvanceBank of %x, %d, %d, makes %.300s of %.300s", r, told, code, whole(), was)
			}
			y, _, _, _ := impl.AdvanceBank(b, r)
			want := bankText(y)
			spoilBank(x)
			if whole() != was || bankText(y) != want {
				t.Fatalf("what AdvanceBank of %x, %d, %d, answers is another's memory, or its argument's", r, told, code)
			}
			spoilBank(b)
			if bankText(y) != want {
				t.Fatalf("what AdvanceBank of %x, %d, %d, answers is its argument's memory", r, told, code)
			}
		}
	}
}

func TestP1BytesOfBanksStayAsTheyWere(t *testing.T) {
	for _, b := range rightBanks() {
		x, _ := impl.BankBytes(b)
		again, _ := impl.BankBytes(b)
		clear(x[:cap(x)])
		if string(again) != bankByRule(b) {
			t.Fatal("two answers of BankBytes are one memory")
		}
		whole := append(slices.Clone(again), "behind"...)
		in := whole[:len(again)]
		y, code := impl.ReadBank(in)
		z, _ := impl.ReadBank(in)
		spoilBank(y)
		if string(whole) != bankByRule(b)+"behind" {
			t.Fatalf("ReadBank, %d, changes its bytes", code)
		}
		clear(whole)
		if bankText(z) != bankText(b) {
			t.Fatalf("what ReadBank answers is its argument's memory, or another's: %s", bankText(z))
		}
	}
}

func TestP1RequestsOfARunStayAsTheyWere(t *testing.T) {
	for seed := range 50 {
		s := stream(seed)
		var list []impl.Request
		for range 60 {
			list = append(list, someRequest(&s))
		}
		was := fmt.Sprint(list)
		b, codes, code := impl.BankRun(list[:40])
		if fmt.Sprint(list) != was || code != impl.OK {
			t.Fatalf("BankRun changes its requests, %d", code)
		}
		c, more, _ := impl.BankRun(list[:40])
		want := bankText(c) + fmt.Sprint(more)
		spoilBank(b)
		clear(codes[:cap(codes)])
		clear(list)
		if bankText(c)+fmt.Sprint(more) != want {
			t.Fatal("an answer of BankRun is another's memory, or an argument's")
		}
	}
}

// everyBankCall tells what each function of the bank answers to inputs drawn from a seed, wrong ones among them.
func everyBankCall(seed stream) string {
	s := seed
	var list []impl.Request
	for range int(s.next()) % 130 {
		list = append(list, someRequest(&s))
	}
	if s.next() < 40 {
		list = append(list, wrongRequests()[s.next()%40])
	}
	b, codes, code := impl.BankRun(list)
	out := []string{bankText(b), fmt.Sprint(codes, code, impl.BankOK(b))}
	if s.next() < 40 {
		b = wrongBanks()[s.next()]
	}
	for range 10 {
		x, told, mark, code := impl.AdvanceBank(b, someRequest(&s))
		r, none := impl.ReadRegister(b, int(s.next())%30-1)
		out = append(out, bankText(x), fmt.Sprint(told, mark, code, r, none))
		if code == impl.OK {
			b = x
		}
	}
	x, code := impl.BankBytes(b)
	if len(x) > 0 && s.next() < 128 {
		x[int(s.next())%len(x)] ^= s.next()
	}
	y, form := impl.ReadBank(x)
	return strings.Join(append(out, fmt.Sprintf("%x %d %d", x, code, form), bankText(y)), "\n")
}

func TestP1AlikeArgumentsHaveAlikeBanks(t *testing.T) {
	alikeAnswers(t, everyBankCall)
}

func TestP1ManyBanksAtOnce(t *testing.T) {
	alikeAtOnce(t, everyBankCall)
}
