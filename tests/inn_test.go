package tests

import (
	"fmt"
	"math"
	"slices"
	"strings"
	"testing"

	"loop.example/g00558/impl"
)

var noInn = impl.Inn{}

// houseIsRight goes through chapter 15, sentence by sentence.
func houseIsRight(n impl.Inn) bool {
	for _, s := range n.Seats {
		if !seatIsRight(s) {
			return false
		}
	}
	return memoryIsRight(n.Memory) && len(n.Seats) <= 8
}

func sameInn(a, b impl.Inn) bool {
	return sameMemory(a.Memory, b.Memory) && slices.EqualFunc(a.Seats, b.Seats, sameSeat)
}

func cloneInn(n impl.Inn) impl.Inn {
	n.Memory.Seen = slices.Clone(n.Memory.Seen)
	n.Seats = slices.Clone(n.Seats)
	for i, s := range n.Seats {
		n.Seats[i] = cloneSeat(s)
	}
	return n
}

func changedInn(n impl.Inn, change func(n *impl.Inn)) impl.Inn {
	n = cloneInn(n)
	change(&n)
	return n
}

// The models go through chapter 15, sentence by sentence.

func wantGreet(n impl.Inn, inn int64, h impl.Hello, now, wish, draw int64) (impl.Inn, impl.Answer, bool) {
	if !houseIsRight(n) {
		return noInn, noAnswer, false
	}
	pick := wantPicked(inn, n.Memory, h, now, wish)
	if pick == 0 || !isDraw(draw) || pick != 4 && len(n.Seats) == 8 {
		return n, noAnswer, false
	}
	secret := wantSecretOf(inn, h, now, pick)
	a, _ := wantAnswering(h.Draw, draw, pick, secret)
	return changedInn(n, func(n *impl.Inn) {
		if pick != 4 {
			s, _ := wantNewSeat(h.Draw, draw, pick, secret)
			n.Seats = append(n.Seats, s)
		}
		if pick == 3 {
			n.Memory, _ = wantNoted(n.Memory, h.Draw)
		}
	}), a, true
}

func wantHand(n impl.Inn, seat int64, b impl.Box) (impl.Inn, int64) {
	if !houseIsRight(n) {
		return noInn, 0
	}
	code := int64(0)
	return changedInn(n, func(n *impl.Inn) {
		for i, s := range n.Seats {
			if int64(i) == seat {
				n.Seats[i], code = wantHears(s, b)
			}
		}
	}), code
}

func wantFallen(n impl.Inn, now int64) (impl.Inn, bool) {
	if !houseIsRight(n) {
		return noInn, false
	}
	if !timeIsRight(now) || now < n.Memory.Since {
		return n, false
	}
	return impl.Inn{Memory: impl.Memory{Since: now}}, true
}

func checkInnOk(t *testing.T, name string, n impl.Inn) bool {
	t.Helper()
	want := houseIsRight(n)
	if got := impl.InnOk(n); got != want {
		t.Fatalf("%s: InnOk(%v) = %v", name, n, got)
	}
	return want
}

// checkGreet wants what the model wants, and of a right Inn none but a right one.
func checkGreet(t *testing.T, name string, n impl.Inn, inn int64, h impl.Hello, now, wish, draw int64) (impl.Inn, impl.Answer, bool) {
	t.Helper()
	want, answer, right := wantGreet(n, inn, h, now, wish, draw)
	got, a, is := impl.Greet(n, inn, h, now, wish, draw)
	if !sameInn(got, want) || a != answer || is != right {
		t.Fatalf("%s: Greet(%v, %d, %v, %d, %d, %d) = %v, %v, %v, not %v, %v, %v", name, n, inn, h, now, wish, draw, got, a, is, want, answer, right)
	}
	if houseIsRight(n) && !impl.InnOk(got) || is && !impl.AnswerOk(a) {
		t.Fatalf("%s: Greet(%v, %d, %v, %d, %d, %d) = %v, %v, which is not right", name, n, inn, h, now, wish, draw, got, a)
	}
	return got, a, is
}

func checkHand(t *testing.T, name string, n impl.Inn, seat int64, b impl.Box) (impl.Inn, int64) {
	t.Helper()
	want, code := wantHand(n, seat, b)
	got, heard := impl.Hand(n, seat, b)
	if !sameInn(got, want) || heard != code {
		t.Fatalf("%s: Hand(%v, %d, %v) = %v, %d, not %v, %d", name, n, seat, b, got, heard, want, code)
	}
	if houseIsRight(n) && !impl.InnOk(got) {
		t.Fatalf("%s: Hand(%v, %d, %v) = %v, which is not right", name, n, seat, b, got)
	}
	return got, heard
}

func checkFallen(t *testing.T, name string, n impl.Inn, now int64) (impl.Inn, bool) {
	t.Helper()
	want, right := wantFallen(n, now)
	got, is := impl.Fallen(n, now)
	if !sameInn(got, want) || is != right {
		t.Fatalf("%s: Fallen(%v, %d) = %v, %v", name, n, now, got, is)
	}
	if houseIsRight(n) && !impl.InnOk(got) {
		t.Fatalf("%s: Fallen(%v, %d) = %v, which is not right", name, n, now, got)
	}
	return got, is
}

// seatsLike are so many right Seats, no two alike, of all picks, waiting and open.
func seatsLike(count int) []impl.Seat {
	var seats []impl.Seat
	bases := seatBases()
	for i := range count {
		seats = append(seats, changedSeat(bases[i%len(bases)].seat, fitSeat(func(s *impl.Seat) {
			s.Hello, s.Draw = int64(20+i), int64(40+i)
		})))
	}
	return seats
}

// innsLike are right Inns with room for a Seat, and without it, of that Memory.
func innsLike(m impl.Memory) []impl.Inn {
	var inns []impl.Inn
	for _, count := range []int{0, 1, 6, 7, 8} {
		inns = append(inns, impl.Inn{Memory: m, Seats: seatsLike(count)})
	}
	return inns
}

var wrongMemories = []impl.Memory{
	{Seen: drawsFrom(9, 7), Since: 5}, {Seen: drawsFrom(90, 90)}, {Seen: []int64{7, 7}, Since: 5}, {Seen: []int64{7, 8, 9, 7}},
	{Seen: []int64{1, 2, 3, 4, 5, 5}}, {Seen: []int64{0}}, {Seen: []int64{7, -7}, Since: 5}, {Seen: []int64{100001}},
	{Since: -1}, {Since: 100001}, {Seen: []int64{7}, Since: math.MinInt64}, {Seen: []int64{7}, Since: math.MaxInt64},
}

// wrongInns are wrong by their Memory, by how many Seats there are, or by one Seat at each place.
func wrongInns(t *testing.T) []impl.Inn {
	t.Helper()
	var wrong []impl.Inn
	for _, m := range wrongMemories {
		for _, count := range []int{0, 1, 7, 8} {
			wrong = append(wrong, impl.Inn{Memory: m, Seats: seatsLike(count)})
		}
	}
	for _, m := range []impl.Memory{{}, {Seen: []int64{7}, Since: 20}, {Since: -1}} {
		for _, count := range []int{9, 10, 100} {
			wrong = append(wrong, impl.Inn{Memory: m, Seats: seatsLike(count)}, impl.Inn{Memory: m, Seats: make([]impl.Seat, count)})
		}
	}
	for i, s := range wrongSeats(t) {
		// Each of them at the only place, and in turn at one of the places among others.
		count := 1 + i%8
		n := impl.Inn{Seats: seatsLike(count)}
		n.Seats[i/8%count] = s
		wrong = append(wrong, impl.Inn{Seats: []impl.Seat{s}}, n)
	}
	return wrong
}

func TestInnConstants(t *testing.T) {
	if impl.MaxSeats != 8 {
		t.Fatalf("%d", impl.MaxSeats)
	}
}

func TestInnOk(t *testing.T) {
	wrong := changedSeat(seatsLike(1)[0], func(s *impl.Seat) { s.State = 3 })
	with := func(count, at int, s impl.Seat) []impl.Seat {
		seats := seatsLike(count)
		seats[at] = s
		return seats
	}
	right := impl.Memory{Seen: []int64{9}, Since: 5}
	for _, c := range []struct {
		name string
		inn  impl.Inn
		want bool
	}{
		{"the zero Inn", noInn, true},
		{"empty lists", impl.Inn{Memory: impl.Memory{Seen: []int64{}}, Seats: []impl.Seat{}}, true},
		{"a right Memory", impl.Inn{Memory: right}, true},
		{"a full Memory", impl.Inn{Memory: impl.Memory{Seen: drawsFrom(9, 6), Since: 5}}, true},
		{"too many Seen", impl.Inn{Memory: impl.Memory{Seen: drawsFrom(9, 7), Since: 5}}, false},
		{"two alike Seen", impl.Inn{Memory: impl.Memory{Seen: []int64{9, 9}, Since: 5}}, false},
		{"what was Seen is no draw", impl.Inn{Memory: impl.Memory{Seen: []int64{0}, Since: 5}}, false},
		{"Since 0", impl.Inn{Memory: impl.Memory{Since: 0}}, true},
		{"Since below 0", impl.Inn{Memory: impl.Memory{Since: -1}}, false},
		{"Since MaxTime", impl.Inn{Memory: impl.Memory{Since: 100000}}, true},
		{"Since past MaxTime", impl.Inn{Memory: impl.Memory{Since: 100001}}, false},
		{"too many Seen, with Seats", impl.Inn{Memory: impl.Memory{Seen: drawsFrom(9, 7)}, Seats: seatsLike(3)}, false},
		{"two alike Seen, with Seats", impl.Inn{Memory: impl.Memory{Seen: []int64{9, 9}}, Seats: seatsLike(3)}, false},
		{"Since below 0, with Seats", impl.Inn{Memory: impl.Memory{Since: -1}, Seats: seatsLike(3)}, false},
		{"Since past MaxTime, with all Seats", impl.Inn{Memory: impl.Memory{Since: 100001}, Seats: seatsLike(8)}, false},
		{"one Seat", impl.Inn{Memory: right, Seats: seatsLike(1)}, true},
		{"one fewer than the most", impl.Inn{Memory: right, Seats: seatsLike(7)}, true},
		{"the most", impl.Inn{Memory: right, Seats: seatsLike(8)}, true},
		{"one more than the most", impl.Inn{Memory: right, Seats: seatsLike(9)}, false},
		{"many", impl.Inn{Memory: right, Seats: seatsLike(1000)}, false},
		{"the most, and spare room", impl.Inn{Memory: right, Seats: seatsLike(12)[:8]}, true},
		{"all Seats alike", impl.Inn{Memory: right, Seats: slices.Repeat(seatsLike(1), 8)}, true},
		{"two Seats of PkEarly of one greeting", impl.Inn{Memory: right, Seats: slices.Repeat(seatsLike(3)[2:], 2)}, true},
		{"a Seat of PkEarly of what is not Seen", impl.Inn{Seats: seatsLike(3)[2:]}, true},
		{"a full Log", impl.Inn{Seats: with(8, 4, seatOf(t, "E", 0, 0, manyWords(20, 40)))}, true},
		{"a Log that is too long", impl.Inn{Seats: with(8, 4, seatOf(t, "E", 0, 0, manyWords(20, 41)))}, false},
		{"the only one is wrong", impl.Inn{Seats: with(1, 0, wrong)}, false},
		{"the only one is the zero Seat", impl.Inn{Seats: make([]impl.Seat, 1)}, false},
		{"the first one of two is wrong", impl.Inn{Seats: with(2, 0, wrong)}, false},
		{"the last one of two is wrong", impl.Inn{Seats: with(2, 1, wrong)}, false},
		{"the first one of the most is wrong", impl.Inn{Seats: with(8, 0, wrong)}, false},
		{"a middle one of the most is wrong", impl.Inn{Seats: with(8, 4, wrong)}, false},
		{"the last one of the most is wrong", impl.Inn{Seats: with(8, 7, wrong)}, false},
		{"the last one of the most is the zero Seat", impl.Inn{Seats: with(8, 7, noSeat)}, false},
		{"one more than the most, that one wrong", impl.Inn{Seats: with(9, 8, wrong)}, false},
		{"nothing right", impl.Inn{Memory: impl.Memory{Seen: []int64{0, 0}, Since: -1}, Seats: make([]impl.Seat, 9)}, false},
	} {
		if got := impl.InnOk(c.inn); got != c.want {
			t.Errorf("%s: InnOk(%v) = %v", c.name, c.inn, got)
		}
		if houseIsRight(c.inn) != c.want {
			t.Errorf("%s: the model", c.name)
		}
	}
}

func TestInnOkOfEachMemory(t *testing.T) {
	right := 0
	eachMemory(func(m impl.Memory) {
		for _, seats := range [][]impl.Seat{nil, seatsLike(2), {noSeat}} {
			if checkInnOk(t, "each memory", impl.Inn{Memory: m, Seats: seats}) {
				right++
			}
		}
	})
	if right < 100 {
		t.Fatalf("only %d are right", right)
	}
}

func TestInnOkOfEachSeat(t *testing.T) {
	for _, b := range seatBases() {
		for count := 1; count <= 9; count++ {
			for at := range count {
				n := impl.Inn{Memory: impl.Memory{Since: 7}, Seats: seatsLike(count)}
				n.Seats[at] = b.seat
				if checkInnOk(t, "a right seat", n) != (count < 9) {
					t.Fatalf("InnOk(%v)", n)
				}
				for _, m := range guestNumbers {
					for _, change := range changesToSeat(m) {
						checkInnOk(t, "each seat", changedInn(n, func(n *impl.Inn) { change(&n.Seats[at]) }))
					}
				}
			}
		}
	}
	for _, n := range wrongInns(t) {
		if checkInnOk(t, "wrong", n) {
			t.Fatalf("%v is right", n)
		}
	}
}

// greetCase is one that greets a house, and what is picked by each wish, where nothing stands for refused; by a wrong wish it is refused.
type greetCase struct {
	name  string
	house impl.Inn
	inn   int64
	hello impl.Hello
	now   int64
	draw  int64
	want  byWish
}

// wanted is what the house becomes, and what it answers, where that is picked and the token's secret is 5.
func (c greetCase) wanted(pick int64) (impl.Inn, impl.Answer) {
	n, a := cloneInn(c.house), impl.Answer{Hello: c.hello.Draw, Pick: pick}
	if pick == 0 {
		return n, noAnswer
	}
	if pick == impl.PkAgain {
		return n, a
	}
	secret := int64(5)
	if pick == impl.PkFull {
		secret = 0
	}
	s := impl.Seat{State: impl.SeWaits, Hello: c.hello.Draw, Draw: c.draw, Pick: pick}
	s.Forth = impl.Row{Key: impl.ForthKey(secret, c.hello.Draw, c.draw)}
	if pick == impl.PkEarly {
		s.Early = impl.Row{Key: impl.EarlyKey(secret, c.hello.Draw)}
		n.Memory.Seen = append(n.Memory.Seen, c.hello.Draw)
	}
	a.Draw = c.draw
	a.Fin = impl.Box{Key: impl.HandKey(secret, c.hello.Draw, c.draw), Text: fmt.Sprint(pick)}
	n.Seats = append(n.Seats, s)
	return n, a
}

func (c greetCase) check(t *testing.T) {
	t.Helper()
	for _, wish := range append(slices.Clone(wrongWishes), rightWishes...) {
		pick := int64(0)
		if wish >= 0 && wish < int64(len(c.want)) {
			pick = c.want[wish]
		}
		want, answer := c.wanted(pick)
		got, a, is := impl.Greet(c.house, c.inn, c.hello, c.now, wish, c.draw)
		if !sameInn(got, want) || a != answer || is != (pick != 0) || !impl.InnOk(got) {
			t.Errorf("%s: Greet(%v, %d, %v, %d, %d, %d) = %v, %v, %v", c.name, c.house, c.inn, c.hello, c.now, wish, c.draw, got, a, is)
		}
		checkGreet(t, c.name+", the model", c.house, c.inn, c.hello, c.now, wish, c.draw)
	}
}

func TestGreet(t *testing.T) {
	k := mustToken(t, 1, 5, 70, 100, 20)
	first := mustGreetWith(t, 9, false, k, true, 90)
	plain := mustGreetWith(t, 9, false, k, false, 90)
	again := mustGreetWith(t, 9, true, k, false, 90)
	bare, bareAgain := mustGreet(t, 9, false), mustGreet(t, 9, true)
	late := mustToken(t, 1, 5, 100000, 1000, 20)
	atLast := boundHello(late, 9, 0, true)
	some := impl.Inn{Memory: impl.Memory{Seen: []int64{7, 8}, Since: 3}, Seats: seatsLike(3)}
	for _, c := range []greetCase{
		{"early", noInn, 1, first, 90, 12, pickedEarly},
		{"not early", noInn, 1, plain, 90, 12, pickedToken},
		{"again", noInn, 1, again, 90, 12, againToken},
		{"without a token", noInn, 1, bare, 90, 12, pickedFull},
		{"without a token, again", noInn, 1, bareAgain, 90, 12, againFull},
		{"early, others were there", some, 1, first, 90, 12, pickedEarly},
		{"not early, others were there", some, 1, plain, 90, 12, pickedToken},
		{"again, others were there", some, 1, again, 90, 12, againToken},
		{"without a token, others were there", some, 1, bare, 90, 12, pickedFull},
		{"without a token, again, others were there", some, 1, bareAgain, 90, 12, againFull},
		{"the zero Hello", some, 1, noHello, 90, 12, pickedNothing},

		{"a token of another inn", some, 1, mustGreetWith(t, 9, false, mustToken(t, 2, 5, 70, 100, 20), true, 90), 90, 12, pickedFull},
		{"a token of another inn, again", some, 1, mustGreetWith(t, 9, true, mustToken(t, 2, 5, 70, 100, 20), false, 90), 90, 12, againFull},
		{"a token of this one, greeting another one", some, 2, first, 90, 12, pickedFull},
		{"now at Born", noInn, 1, mustGreetWith(t, 9, false, k, true, 70), 70, 12, pickedEarly},
		{"too young", noInn, 1, mustGreetWith(t, 9, false, k, true, 70), 69, 12, pickedFull},
		{"fresh for the last time", noInn, 1, mustGreetWith(t, 9, false, k, true, 150), 170, 12, pickedEarly},
		{"too old", noInn, 1, mustGreetWith(t, 9, false, k, true, 150), 171, 12, pickedFull},
		{"too old, again", noInn, 1, again, 171, 12, againFull},
		{"it does not bind: another secret", some, 1, changedHello(first, func(h *impl.Hello) { h.Bind = bindOf(6, 9, false, 20, true) }), 90, 12, pickedFull},
		{"it does not bind: no secret", some, 1, changedHello(first, func(h *impl.Hello) { h.Bind = bindOf(0, 9, false, 20, true) }), 90, 12, pickedFull},
		{"it does not bind: another age", some, 1, changedHello(first, func(h *impl.Hello) { h.Age = 21 }), 90, 12, pickedFull},
		{"it does not bind: early by no one's word", some, 1, changedHello(plain, func(h *impl.Hello) { h.Early = true }), 90, 12, pickedFull},
		{"it does not bind: another draw", some, 1, changedHello(first, func(h *impl.Hello) { h.Draw = 10 }), 90, 12, pickedFull},
		{"it does not bind: again by no one's word", some, 1, changedHello(plain, func(h *impl.Hello) { h.Again = true }), 90, 12, againFull},
		{"a spoilt Bind", some, 1, changedHello(first, func(h *impl.Hello) { h.Bind = impl.Spoil(h.Bind) }), 90, 12, pickedFull},
		{"a spoilt Seal", some, 1, changedHello(first, func(h *impl.Hello) { h.Seal = impl.Spoil(h.Seal) }), 90, 12, pickedFull},
		{"a greeting that is not right: no Seal", some, 1, changedHello(first, func(h *impl.Hello) { h.Seal = noBox }), 90, 12, pickedNothing},
		{"a greeting that is not right: no Bind", some, 1, changedHello(first, func(h *impl.Hello) { h.Bind = noBox }), 90, 12, pickedNothing},
		{"a greeting that is not right: no draw", some, 1, changedHello(bare, func(h *impl.Hello) { h.Draw = 0 }), 90, 12, pickedNothing},
		{"a greeting that is not right: past all draws", some, 1, changedHello(bare, func(h *impl.Hello) { h.Draw = 100001 }), 90, 12, pickedNothing},
		{"a greeting that is not right: early and again", some, 1, changedHello(first, func(h *impl.Hello) { h.Again = true }), 90, 12, pickedNothing},
		{"a greeting that is not right: an age below 0", some, 1, boundHello(k, 9, -1, true), 90, 12, pickedNothing},
		{"a greeting that is not right: an age past MaxTime", some, 1, boundHello(k, 9, 100001, true), 90, 12, pickedNothing},

		{"the least draw greets", noInn, 1, mustGreetWith(t, 1, false, k, true, 90), 90, 12, pickedEarly},
		{"the largest draw greets", noInn, 1, mustGreetWith(t, 100000, false, k, true, 90), 90, 12, pickedEarly},
		{"the least draw answers", noInn, 1, first, 90, 1, pickedEarly},
		{"the largest draw answers", noInn, 1, first, 90, 100000, pickedEarly},
		{"the least draw answers, without a token", some, 1, bare, 90, 1, pickedFull},
		{"the largest draw answers, again", some, 1, again, 90, 100000, againToken},
		{"the draw of the greeting answers", noInn, 1, first, 90, 9, pickedEarly},
		{"the draw of another Seat answers", some, 1, first, 90, 40, pickedEarly},
		{"the greeting of another Seat", some, 1, mustGreet(t, 20, false), 90, 12, pickedFull},
		{"draw 0 answers", some, 1, first, 90, 0, pickedNothing},
		{"draw 0 answers, without a token", some, 1, bare, 90, 0, pickedNothing},
		{"draw 0 answers, again", some, 1, again, 90, 0, pickedNothing},
		{"a draw below 0 answers", some, 1, first, 90, -1, pickedNothing},
		{"a draw past the largest answers", some, 1, first, 90, 100001, pickedNothing},
		{"a draw past the largest answers, again", some, 1, again, 90, 100001, pickedNothing},
		{"the least int64 answers", some, 1, first, 90, math.MinInt64, pickedNothing},
		{"the largest int64 answers", some, 1, first, 90, math.MaxInt64, pickedNothing},

		{"inn 0", some, 0, bare, 90, 12, pickedFull},
		{"inn 0, by its token", noInn, 0, mustGreetWith(t, 9, false, mustToken(t, 0, 5, 70, 100, 20), true, 90), 90, 12, pickedEarly},
		{"the largest inn", some, 100000, bare, 90, 12, pickedFull},
		{"the largest inn, by its token", noInn, 100000, mustGreetWith(t, 9, false, mustToken(t, 100000, 5, 70, 100, 20), true, 90), 90, 12, pickedEarly},
		{"an inn below 0", some, -1, bare, 90, 12, pickedNothing},
		{"an inn below 0, again", some, -1, again, 90, 12, pickedNothing},
		{"an inn past the largest", some, 100001, first, 90, 12, pickedNothing},
		{"an inn past the largest, without a token", some, 100001, bare, 90, 12, pickedNothing},

		{"now at 0", noInn, 1, bare, 0, 12, pickedFull},
		{"now below 0", some, 1, bare, -1, 12, pickedNothing},
		{"now below 0, early", some, 1, first, -1, 12, pickedNothing},
		{"now at MaxTime", some, 1, bare, 100000, 12, pickedFull},
		{"now at MaxTime, early", noInn, 1, atLast, 100000, 12, pickedEarly},
		{"now past MaxTime", some, 1, bare, 100001, 12, pickedNothing},
		{"now past MaxTime, early", noInn, 1, atLast, 100001, 12, pickedNothing},
		{"now ahead of Since", impl.Inn{Memory: impl.Memory{Since: 99}}, 1, bare, 90, 12, pickedFull},
		{"nothing right", some, -1, noHello, -1, 0, pickedNothing},
	} {
		c.check(t)
	}
}

func TestGreetByMemory(t *testing.T) {
	k := mustToken(t, 1, 5, 70, 100, 20)
	first := mustGreetWith(t, 9, false, k, true, 90)
	plain := mustGreetWith(t, 9, false, k, false, 90)
	bare := mustGreet(t, 9, false)
	seen := func(since int64, list ...int64) impl.Inn {
		return impl.Inn{Memory: impl.Memory{Seen: list, Since: since}, Seats: seatsLike(2)}
	}
	for _, c := range []struct {
		greetCase
		// What MayHear of SaidAt.
		code int64
	}{
		{greetCase{"nothing Seen", seen(0), 1, first, 90, 12, pickedEarly}, impl.MhYes},
		{greetCase{"others Seen", seen(0, 7, 5), 1, first, 90, 12, pickedEarly}, impl.MhYes},
		{greetCase{"room for one more", seen(0, drawsFrom(25, 5)...), 1, first, 90, 12, pickedEarly}, impl.MhYes},
		{greetCase{"now one more than Since and Window", seen(28), 1, first, 90, 12, pickedEarly}, impl.MhYes},
		{greetCase{"said at Slack ahead of now", seen(0), 1, first, 120, 12, pickedEarly}, impl.MhYes},
		{greetCase{"said at Slack behind now", seen(0), 1, mustGreetWith(t, 9, false, k, true, 120), 90, 12, pickedEarly}, impl.MhYes},

		{greetCase{"now at Since and Window", seen(29), 1, first, 90, 12, pickedToken}, impl.MhYoung},
		{greetCase{"now at Since", seen(90), 1, first, 90, 12, pickedToken}, impl.MhYoung},
		{greetCase{"now ahead of Since", seen(91), 1, first, 90, 12, pickedToken}, impl.MhYoung},
		{greetCase{"Since MaxTime", seen(100000), 1, first, 90, 12, pickedToken}, impl.MhYoung},
		{greetCase{"young and Seen", seen(29, 9), 1, first, 90, 12, pickedToken}, impl.MhYoung},
		{greetCase{"said one more ahead of now", seen(0), 1, first, 121, 12, pickedToken}, impl.MhStale},
		{greetCase{"said one more behind now", seen(0), 1, mustGreetWith(t, 9, false, k, true, 121), 90, 12, pickedToken}, impl.MhStale},
		{greetCase{"stale and Seen", seen(0, 9), 1, first, 121, 12, pickedToken}, impl.MhStale},
		{greetCase{"Seen alone", seen(0, 9), 1, first, 90, 12, pickedToken}, impl.MhSeen},
		{greetCase{"Seen first", seen(0, 9, 7), 1, first, 90, 12, pickedToken}, impl.MhSeen},
		{greetCase{"Seen last", seen(0, 7, 9), 1, first, 90, 12, pickedToken}, impl.MhSeen},
		{greetCase{"Seen, with room for one more", seen(0, drawsFrom(9, 5)...), 1, first, 90, 12, pickedToken}, impl.MhSeen},
		{greetCase{"Seen, and no room", seen(0, drawsFrom(9, 6)...), 1, first, 90, 12, pickedToken}, impl.MhSeen},
		{greetCase{"no room", seen(0, drawsFrom(25, 6)...), 1, first, 90, 12, pickedToken}, impl.MhFull},
		{greetCase{"said at no time", seen(0), 1, boundHello(k, 9, 99931, true), 90, 12, pickedToken}, impl.MhBad},
		{greetCase{"no room, not early", seen(0, drawsFrom(25, 6)...), 1, plain, 90, 12, pickedToken}, impl.MhFull},
		{greetCase{"no room, without a token", seen(0, drawsFrom(25, 6)...), 1, bare, 90, 12, pickedFull}, impl.MhBad},
		{greetCase{"Seen, not early", seen(0, 9), 1, plain, 90, 12, pickedToken}, impl.MhSeen},
	} {
		c.check(t)
		k, _ := impl.TokenIn(1, c.hello, c.now)
		if code := impl.MayHear(c.house.Memory, 9, impl.SaidAt(c.hello, k), c.now); code != c.code {
			t.Errorf("%s: MayHear is %d, not %d", c.name, code, c.code)
		}
	}
}

// TestGreetBySeats: what takes a Seat is refused where there is none left, and nothing is Noted then; PkAgain takes none.
func TestGreetBySeats(t *testing.T) {
	k := mustToken(t, 1, 5, 70, 100, 20)
	onlyAgain := byWish{0, 0, 0, impl.PkAgain}
	for _, c := range []struct {
		name  string
		hello impl.Hello
		want  byWish
		full  byWish
	}{
		{"early", mustGreetWith(t, 9, false, k, true, 90), pickedEarly, onlyAgain},
		{"not early", mustGreetWith(t, 9, false, k, false, 90), pickedToken, onlyAgain},
		{"without a token", mustGreet(t, 9, false), pickedFull, onlyAgain},
		{"again", mustGreetWith(t, 9, true, k, false, 90), againToken, pickedNothing},
		{"without a token, again", mustGreet(t, 9, true), againFull, pickedNothing},
	} {
		for count := range 9 {
			want := c.want
			if count == 8 {
				want = c.full
			}
			house := impl.Inn{Memory: impl.Memory{Seen: []int64{7}, Since: 2}, Seats: seatsLike(count)}
			greetCase{fmt.Sprintf("%s, %d seats", c.name, count), house, 1, c.hello, 90, 12, want}.check(t)
			greetCase{fmt.Sprintf("%s, %d seats, no draw", c.name, count), house, 1, c.hello, 90, 0, pickedNothing}.check(t)
		}
	}
}

// TestGreetBySecret: the Seat and the Answer are of the secret of the token that greets.
func TestGreetBySecret(t *testing.T) {
	for _, secret := range []int64{1, 2, 5, 9, 12, 99999, 100000} {
		h := mustGreetWith(t, 9, false, mustToken(t, 1, secret, 70, 100, 20), true, 90)
		for _, wish := range rightWishes {
			n, a, is := checkGreet(t, "by secret", noInn, 1, h, 90, wish, 12)
			if !is || !impl.Proves(a, secret) || a.Pick != pickedEarly[wish] {
				t.Fatalf("by secret %d, wish %d: %v, %v", secret, wish, a, is)
			}
			if wish <= impl.WiToken && (n.Seats[0].Forth.Key.Secret != secret || impl.Proves(a, secret%7+10)) {
				t.Fatalf("by secret %d, wish %d: %v, %v", secret, wish, n, a)
			}
		}
	}
}

// TestGreetOfTheSameGreeting: twice, three times and behind a fall, each time there is a Seat more, but one of them all is of PkEarly.
func TestGreetOfTheSameGreeting(t *testing.T) {
	k := mustToken(t, 1, 5, 70, 500, 20)
	h := mustGreetWith(t, 9, false, k, true, 90)
	n := noInn
	for i, want := range []int64{impl.PkEarly, impl.PkToken, impl.PkToken, impl.PkToken} {
		next, a, is := checkGreet(t, "the same greeting", n, 1, h, 90+int64(i), impl.WiEarly, 12+int64(i))
		if !is || a.Pick != want || a.Draw != 12+int64(i) || len(next.Seats) != i+1 || !sameMemory(next.Memory, impl.Memory{Seen: []int64{9}}) {
			t.Fatalf("for time %d: %v, %v", i, next, a)
		}
		if !slices.EqualFunc(next.Seats[:i], n.Seats, sameSeat) {
			t.Fatalf("for time %d: %v becomes %v", i, n, next)
		}
		n = next
	}
	n, fell := impl.Fallen(n, 95)
	if !fell || !sameInn(n, impl.Inn{Memory: impl.Memory{Since: 95}}) {
		t.Fatalf("behind a fall: %v, %v", n, fell)
	}
	for i, now := range []int64{95, 96, 120, 121, 156, 157, 400, 570} {
		next, a, is := checkGreet(t, "behind a fall", n, 1, h, now, impl.WiEarly, 20)
		if !is || a.Pick != impl.PkToken || len(next.Seats) != i+1 || len(next.Memory.Seen) != 0 {
			t.Fatalf("behind a fall, at %d: %v, %v", now, next, a)
		}
		n = next
	}
	// Another greeting, said late enough, is early again.
	n, _ = impl.Fallen(n, 95)
	if n, a, _ := checkGreet(t, "another one", n, 1, mustGreetWith(t, 10, false, k, true, 157), 157, impl.WiEarly, 21); a.Pick != impl.PkEarly || !slices.Equal(n.Memory.Seen, []int64{10}) {
		t.Fatalf("another one: %v, %v", n, a)
	}
}

// TestGreetFillsTheHouse: Seats until there are 8 of them; Seen until there are 6 of them, then by token.
func TestGreetFillsTheHouse(t *testing.T) {
	n, k := noInn, mustToken(t, 1, 5, 70, 100, 20)
	for i := range int64(12) {
		next, a, is := checkGreet(t, "fills", n, 1, mustGreetWith(t, 9+i, false, k, true, 90), 90, impl.WiEarly, 30+i)
		want := int64(0)
		switch {
		case i < 6:
			want = impl.PkEarly
		case i < 8:
			want = impl.PkToken
		}
		if is != (i < 8) || a.Pick != want || len(next.Seats) != int(min(i+1, 8)) || len(next.Memory.Seen) != int(min(i+1, 6)) {
			t.Fatalf("greeting %d: %v, %v, %v", i, next, a, is)
		}
		n = next
	}
	for i, s := range n.Seats {
		if s.Hello != int64(9+i) || s.Draw != int64(30+i) || i < 6 && n.Memory.Seen[i] != int64(9+i) {
			t.Fatalf("seat %d of %v", i, n)
		}
	}
}

var innDraws = []int64{math.MinInt64, -1, 0, 1, 9, 12, 100000, 100001, 1<<32 + 12, math.MaxInt64}

// TestGreetOfEach: each of these memories, seats, greetings, wishes and draws together.
func TestGreetOfEach(t *testing.T) {
	hellos, came := pickHellos(t), map[int64]int{}
	for _, m := range pickMemories() {
		for _, n := range innsLike(m) {
			for _, h := range hellos {
				for _, wish := range []int64{-1, 0, 1, 2, 3, 4} {
					for _, draw := range []int64{0, 12} {
						_, a, is := checkGreet(t, "of each", n, 1, h, 90, wish, draw)
						if is != (a.Pick != 0) {
							t.Fatalf("Greet(%v, 1, %v, 90, %d, %d): %v, %v", n, h, wish, draw, a, is)
						}
						came[a.Pick]++
					}
				}
			}
		}
	}
	for pick := range int64(5) {
		if came[pick] < 100 {
			t.Errorf("pick %d came %d times", pick, came[pick])
		}
	}
}

// TestGreetOfEachNumber: each of these inns, times and draws, right and wrong, each wish and each greeting.
func TestGreetOfEachNumber(t *testing.T) {
	houses := []impl.Inn{{Memory: impl.Memory{Seen: []int64{7}}, Seats: seatsLike(2)}, {Seats: seatsLike(8)}, {Memory: impl.Memory{Since: -1}}}
	for i, h := range pickHellos(t) {
		for _, inn := range pickInns {
			for _, now := range pickNows {
				for j, draw := range innDraws {
					// In turn, as all of them together are too many.
					checkGreet(t, "each number", houses[0], inn, h, now, rightWishes[(i+j)%4], draw)
					checkGreet(t, "each number", houses[1], inn, h, now, rightWishes[(i+j)%4], draw)
					checkGreet(t, "each number", houses[2], inn, h, now, rightWishes[(i+j)%4], draw)
				}
			}
		}
		for _, wish := range append(slices.Clone(wrongWishes), rightWishes...) {
			for _, draw := range innDraws {
				for _, n := range houses {
					checkGreet(t, "each wish", n, 1, h, 90, wish, draw)
				}
			}
		}
	}
}

// TestInnsThatAreNotRight: whatever is wrong, the zero Inn is answered, and nothing else, by whatever call.
func TestInnsThatAreNotRight(t *testing.T) {
	k := mustToken(t, 1, 5, 70, 100, 20)
	hellos := []impl.Hello{
		mustGreetWith(t, 9, false, k, true, 90), mustGreetWith(t, 9, false, k, false, 90), mustGreetWith(t, 9, true, k, false, 90),
		mustGreet(t, 9, false), mustGreet(t, 9, true), noHello,
	}
	for _, n := range wrongInns(t) {
		if houseIsRight(n) {
			t.Fatalf("%v is right", n)
		}
		for _, h := range hellos {
			for _, wish := range []int64{0, 1, 2, 3, 4} {
				for _, draw := range []int64{0, 12} {
					if got, a, is := impl.Greet(n, 1, h, 90, wish, draw); !sameInn(got, noInn) || a != noAnswer || is {
						t.Fatalf("Greet(%v, 1, %v, 90, %d, %d) = %v, %v, %v", n, h, wish, draw, got, a, is)
					}
				}
			}
		}
		for seat := int64(-1); seat < 10; seat++ {
			for _, b := range ownBoxes(n, seat) {
				if got, heard := impl.Hand(n, seat, b); !sameInn(got, noInn) || heard != impl.HeNone {
					t.Fatalf("Hand(%v, %d, %v) = %v, %d", n, seat, b, got, heard)
				}
			}
		}
		for _, now := range []int64{-1, 0, 5, 90, 100000, 100001} {
			if got, is := impl.Fallen(n, now); !sameInn(got, noInn) || is {
				t.Fatalf("Fallen(%v, %d) = %v, %v", n, now, got, is)
			}
		}
	}
}

// ownBoxes are those that this Seat may take next, and one that none does.
func ownBoxes(n impl.Inn, seat int64) []impl.Box {
	list := []impl.Box{noBox}
	if seat >= 0 && seat < int64(len(n.Seats)) {
		s := n.Seats[seat]
		list = append(list,
			impl.Box{Key: s.Early.Key, No: s.Early.No, Text: "x"},
			impl.Box{Key: s.Forth.Key, No: s.Forth.No, Text: "x"},
			impl.Box{Key: s.Forth.Key, No: s.Forth.No, Text: fmt.Sprintf("end%d", len(s.Log))},
		)
	}
	return list
}

// TestHand: each code, heard by a Seat at each place among others, which stay as they are.
func TestHand(t *testing.T) {
	two := wordsLike("a*", "b*")
	early, forth := impl.EarlyKey(5, 9), impl.ForthKey(5, 9, 12)
	for _, c := range []hearCase{
		{"an early word", seatOf(t, "e", 2, 0, two), impl.Box{Key: early, No: 2, Text: "c"}, impl.HeEarly},
		{"the end", seatOf(t, "e", 2, 0, two), impl.Box{Key: forth, Text: "end2"}, impl.HeEnd},
		{"the end of none, of PkToken", seatOf(t, "k", 0, 0, nil), impl.Box{Key: forth, Text: "end0"}, impl.HeEnd},
		{"the end of none, of PkFull", seatOf(t, "f", 0, 0, nil), impl.Box{Key: impl.ForthKey(0, 9, 12), Text: "end0"}, impl.HeEnd},
		{"a word", seatOf(t, "E", 0, 2, two), impl.Box{Key: forth, No: 2, Text: "c"}, impl.HeWord},
		{"a word, of PkFull", seatOf(t, "F", 0, 1, nil), impl.Box{Key: impl.ForthKey(0, 9, 12), No: 1, Text: "c"}, impl.HeWord},
		{"another end", seatOf(t, "e", 2, 0, two), impl.Box{Key: forth, Text: "end1"}, impl.HeNone},
		{"an early word twice", seatOf(t, "e", 2, 0, two), impl.Box{Key: early, No: 1, Text: "b"}, impl.HeNone},
		{"an early word behind the end", seatOf(t, "E", 0, 2, two), impl.Box{Key: early, No: 2, Text: "c"}, impl.HeNone},
		{"a word ahead of the end", seatOf(t, "k", 0, 0, nil), impl.Box{Key: forth, Text: "c"}, impl.HeNone},
		{"a spoilt one", seatOf(t, "E", 0, 2, two), impl.Box{Key: forth, No: 2, Text: "c", Spoilt: true}, impl.HeNone},
		{"no box", seatOf(t, "E", 0, 2, two), noBox, impl.HeNone},
		{"no room", seatOf(t, "E", 0, 2, manyWords(20, 40)), impl.Box{Key: forth, No: 2, Text: "c"}, impl.HeNone},
	} {
		heardAlone, code := impl.Hears(c.seat, c.box)
		if code != c.want {
			t.Fatalf("%s: Hears is %d", c.name, code)
		}
		for count := 1; count <= 8; count++ {
			for at := range count {
				n := impl.Inn{Memory: impl.Memory{Seen: []int64{9, 7}, Since: 60}, Seats: seatsLike(count)}
				n.Seats[at] = c.seat
				want := cloneInn(n)
				want.Seats[at] = heardAlone
				if got, heard := impl.Hand(n, int64(at), c.box); heard != c.want || !sameInn(got, want) {
					t.Errorf("%s: Hand(%v, %d, %v) = %v, %d", c.name, n, at, c.box, got, heard)
				}
				// None of the others hears it, nor is there any other one.
				for seat := int64(-1); seat <= int64(count); seat++ {
					if got, heard := checkHand(t, c.name, n, seat, c.box); seat != int64(at) && (heard != impl.HeNone || !sameInn(got, n)) {
						t.Errorf("%s: Hand(%v, %d, %v) = %v, %d", c.name, n, seat, c.box, got, heard)
					}
				}
			}
		}
	}
}

var innSeats = []int64{
	math.MinInt64, -9, -8, -2, -1, 0, 1, 2, 3, 4, 5, 6, 7, 8, 9, 1 << 31, 1 << 32, 1<<32 + 1, 1<<32 + 7, math.MaxInt64 - 1, math.MaxInt64,
}

// TestHandToNoSeat: what is handed to none is heard by none, and all stays as it is.
func TestHandToNoSeat(t *testing.T) {
	for count := range 9 {
		n := impl.Inn{Memory: impl.Memory{Seen: []int64{9, 7}, Since: 60}, Seats: seatsLike(count)}
		boxes := []impl.Box{noBox}
		for seat := range int64(count) {
			boxes = append(boxes, ownBoxes(n, seat)...)
		}
		heard := 0
		for _, b := range boxes {
			for _, seat := range innSeats {
				got, code := checkHand(t, "to each", n, seat, b)
				if seat < 0 || seat >= int64(count) {
					if code != impl.HeNone || !sameInn(got, n) {
						t.Fatalf("Hand(%v, %d, %v) = %v, %d", n, seat, b, got, code)
					}
				} else if code != impl.HeNone {
					heard++
				}
			}
		}
		// Of each 6 the three that wait hear the end, the three others two words, and that of PkEarly an early one besides.
		want := []int{0, 1, 2, 4, 6, 8, 10, 11, 12}[count]
		if heard != want {
			t.Fatalf("of %d seats %d boxes were heard, not %d", count, heard, want)
		}
	}
}

func TestHandOfEach(t *testing.T) {
	boxes, came := seatBoxes(), map[int64]int{}
	var bases []impl.Seat
	for _, b := range seatBases() {
		bases = append(bases, b.seat)
	}
	// Seats of one greeting and one draw stand beside each other here: of two alike none hears for the other one.
	for _, seats := range [][]impl.Seat{bases, append(slices.Clone(bases[2:]), bases[:2]...), {bases[2], bases[2], bases[5], bases[5]}} {
		for _, m := range []impl.Memory{{}, {Seen: []int64{9}, Since: 90}, {Since: -1}} {
			n := impl.Inn{Memory: m, Seats: seats}
			for _, b := range boxes {
				for seat := int64(-1); seat <= int64(len(seats)); seat++ {
					_, code := checkHand(t, "of each", n, seat, b)
					came[code]++
				}
			}
		}
	}
	for code := range int64(4) {
		if came[code] < 10 {
			t.Errorf("code %d came %d times", code, came[code])
		}
	}
}

func TestFallen(t *testing.T) {
	for _, c := range []struct {
		name       string
		since, now int64
		want       bool
	}{
		{"at Since", 60, 60, true},
		{"one less", 60, 59, false},
		{"one more", 60, 61, true},
		{"long behind", 60, 5000, true},
		{"at 0", 60, 0, false},
		{"below 0", 60, -1, false},
		{"at MaxTime", 60, 100000, true},
		{"past MaxTime", 60, 100001, false},
		{"since 0, at 0", 0, 0, true},
		{"since 0, below 0", 0, -1, false},
		{"since 0, at MaxTime", 0, 100000, true},
		{"since MaxTime, at MaxTime", 100000, 100000, true},
		{"since MaxTime, one less", 100000, 99999, false},
		{"since MaxTime, past it", 100000, 100001, false},
		{"the least int64", 60, math.MinInt64, false},
		{"the largest int64", 60, math.MaxInt64, false},
		{"in 32 bits at Since", 60, 1<<32 + 60, false},
	} {
		for _, seen := range [][]int64{nil, {}, {9}, {9, 7}, drawsFrom(9, 6)} {
			for count := range 9 {
				n := impl.Inn{Memory: impl.Memory{Seen: seen, Since: c.since}, Seats: seatsLike(count)}
				want := n
				if c.want {
					want = impl.Inn{Memory: impl.Memory{Since: c.now}}
				}
				if got, is := impl.Fallen(n, c.now); is != c.want || !sameInn(got, want) || !impl.InnOk(got) {
					t.Errorf("%s: Fallen(%v, %d) = %v, %v", c.name, n, c.now, got, is)
				}
				checkFallen(t, c.name+", the model", n, c.now)
			}
		}
	}
}

func TestFallenOfEach(t *testing.T) {
	eachMemory(func(m impl.Memory) {
		for _, seats := range [][]impl.Seat{nil, seatsLike(2), seatsLike(9)} {
			for _, now := range append(slices.Clone(memoryTimes), 99, 101) {
				checkFallen(t, "of each", impl.Inn{Memory: m, Seats: seats}, now)
			}
		}
	})
}

// TestAWholeTalkInAHouse: a Guest greets, says and sends; what its Seat heard in the end is all it said, whatever is picked.
func TestAWholeTalkInAHouse(t *testing.T) {
	k := mustToken(t, 1, 5, 70, 100, 4)
	for _, wish := range rightWishes {
		for _, has := range eitherWay {
			g := mustGuest(t, 9)
			for _, text := range []string{"hay", "a", "bc"} {
				g, _ = impl.SayEarly(g, text)
			}
			g, _ = impl.Say(g, "oats")
			n := impl.Inn{Seats: seatsLike(4)}
			g, h, _ := impl.Offer(g, k, has, has, 90)
			g, boxes := impl.SendEarly(g)
			n, a, _ := impl.Greet(n, 1, h, 91, wish, 12)
			g, h, _ = impl.Hear(g, a, 92)
			if (h != noHello) != (wish == impl.WiAgain) {
				t.Fatalf("by wish %d: %v, %v", wish, a, g)
			}
			if h != noHello {
				n, a, _ = impl.Greet(n, 1, h, 93, impl.WiToken, 13)
				g, _, _ = impl.Hear(g, a, 94)
			}
			g, behind := impl.Send(g)
			heard := map[int64]int{}
			for _, b := range append(boxes, behind...) {
				next, code := checkHand(t, "a whole talk", n, 4, b)
				n = next
				heard[code]++
			}
			if len(n.Seats) != 5 || !slices.Equal(impl.LogOf(n.Seats[4]), impl.AllOf(g)) || n.Seats[4].State != impl.SeOpen {
				t.Fatalf("by wish %d: %v, where %q was said", wish, n, impl.AllOf(g))
			}
			if early := has && wish == impl.WiEarly; (heard[impl.HeEarly] == 2) != early || (len(n.Memory.Seen) == 1) != early || heard[impl.HeEnd] != 1 {
				t.Fatalf("by wish %d: heard is %v, in the end %v", wish, heard, n)
			}
		}
	}
}

// houseOnTheWay is a house, when it is, which boxes with early words it heard so far, and which greetings it picked early.
type houseOnTheWay struct {
	inn    impl.Inn
	now    int64
	heard  string
	picked string
}

// TestEarlyWordsAreHeardOnceInOneHouse goes all ways of a house to which three greetings, said at unlike times, and their early words
// come as often as they like, while time goes on and it falls whenever it likes.
func TestEarlyWordsAreHeardOnceInOneHouse(t *testing.T) {
	// Clocks differ: the first one is said as far behind now as can be, so that it may be heard for as long as can be.
	// The last one is said late enough to be heard behind a fall.
	var hellos []impl.Hello
	for i, said := range []int64{130, 110, 165} {
		k := mustToken(t, 1, int64(5+i), 70, 500, 20)
		hellos = append(hellos, mustGreetWith(t, int64(9+i), false, k, true, said))
	}
	boxes := []impl.Box{
		mustLock(t, impl.EarlyKey(5, 9), 0, "a"), mustLock(t, impl.EarlyKey(5, 9), 1, "b"),
		mustLock(t, impl.EarlyKey(6, 10), 0, "c"), mustLock(t, impl.EarlyKey(7, 11), 0, "d"),
	}
	known := map[string]bool{}
	early, twice := 0, 0
	begin := []houseOnTheWay{{now: 100}}
	for range 11 {
		var next []houseOnTheWay
		visit := func(w houseOnTheWay) {
			if name := fmt.Sprint(w); !known[name] {
				known[name] = true
				next = append(next, w)
			}
		}
		for _, w := range begin {
			for i, h := range hellos {
				// More than three Seats tell nothing new, but there are many such ways.
				if len(w.inn.Seats) == 3 {
					break
				}
				n, a, is := impl.Greet(w.inn, 1, h, w.now, impl.WiEarly, 12)
				name := fmt.Sprint(i)
				if !is || a.Pick == impl.PkEarly && strings.Contains(w.picked, name) {
					t.Fatalf("behind %v: %v is picked early twice, in %v", w, h, n)
				}
				if a.Pick == impl.PkEarly {
					visit(houseOnTheWay{n, w.now, w.heard, w.picked + name})
					early++
					continue
				}
				if strings.Contains(w.picked, name) {
					twice++
				}
				visit(houseOnTheWay{n, w.now, w.heard, w.picked})
			}
			for i, b := range boxes {
				for seat := range int64(len(w.inn.Seats)) {
					n, code := impl.Hand(w.inn, seat, b)
					name := fmt.Sprint(i)
					if code > impl.HeEarly || code == impl.HeEarly && strings.Contains(w.heard, name) {
						t.Fatalf("behind %v: %v is heard twice, in %v", w, b, n)
					}
					if code == impl.HeEarly {
						visit(houseOnTheWay{n, w.now, w.heard + name, w.picked})
					}
				}
			}
			if n, is := impl.Fallen(w.inn, w.now); is {
				visit(houseOnTheWay{n, w.now, w.heard, w.picked})
			}
			for _, ticks := range []int64{30, 31} {
				visit(houseOnTheWay{w.inn, w.now + ticks, w.heard, w.picked})
			}
		}
		begin = next
	}
	// Else it would hold of a house that hears nothing.
	if early < 1000 || twice < 50000 || len(known) < 100000 {
		t.Fatalf("%d times early, %d times not for the second time, %d ways", early, twice, len(known))
	}
}

// TestHousesOnALongWay has many greetings, and the early words behind them, come to a house as they go, doubled, late and spoilt,
// while it falls now and then, or has no Seat left, or no room to remember.
func TestHousesOnALongWay(t *testing.T) {
	state, came, heard, refused := int64(11), [5]int{}, map[int64]int{}, 0
	chance := func(n int64) int64 {
		state = (state*1103515245 + 12345) % (1 << 31)
		return state / 65536 % n
	}
	n := impl.Inn{Memory: mustMemory(t, 0)}
	var said []impl.Hello
	var way []impl.Box
	picked, once := map[int64]bool{}, map[impl.Box]bool{}
	for now := range int64(80000) {
		if chance(12) == 0 {
			draw := int64(len(said) + 1)
			k := mustToken(t, 1, draw, max(0, now-100), 200, 20)
			// Clocks differ: what is said now may seem to be said a little ahead of now or behind it.
			said = append(said, mustGreetWith(t, draw, false, k, chance(4) != 0, max(0, now+chance(71)-35)))
			for no := range int64(2) {
				way = append(way, mustLock(t, impl.EarlyKey(draw, draw), no, "a"))
			}
		}
		// It falls often enough to have a Seat left now and then, but not so often that it is young all the time.
		if chance(400) == 0 || len(n.Seats) == 8 && chance(30) == 0 {
			n, _ = checkFallen(t, "on a long way", n, now)
		}
		if len(said) == 0 {
			continue
		}
		if chance(14) == 0 {
			h := spoiltOnTheWay(said[max(0, int64(len(said)-1)-chance(12)*chance(2))], chance(30))
			// Three of four wish early words, so that there are enough of them.
			next, a, is := checkGreet(t, "on a long way", n, 1, h, now, max(0, chance(16)-12), 1+now)
			came[a.Pick]++
			if !is {
				refused++
			}
			if a.Pick == impl.PkEarly {
				if picked[h.Draw] {
					t.Fatalf("%v is picked early twice, at %d", h, now)
				}
				picked[h.Draw] = true
			}
			n = next
		}
		for range 4 {
			b := way[max(0, int64(len(way)-1)-chance(20))]
			if chance(12) == 0 {
				b = impl.Spoil(b)
			}
			next, code := checkHand(t, "on a long way", n, chance(10)-1, b)
			if code == impl.HeEarly {
				if once[b] || !picked[b.Key.Hello] {
					t.Fatalf("%v is heard at %d: twice %v, picked %v", b, now, once[b], picked[b.Key.Hello])
				}
				once[b] = true
			}
			heard[code]++
			n = next
		}
	}
	for pick, count := range came {
		if count < 50 {
			t.Errorf("pick %d came %d times", pick, count)
		}
	}
	if heard[impl.HeEarly] < 100 || heard[impl.HeEnd]+heard[impl.HeWord] > 0 || refused < 100 {
		t.Errorf("heard is %v, refused %d", heard, refused)
	}
}

// innCalls are calls whose answers are Inns, those that do something and those that are refused.
func innCalls(t *testing.T) []func(impl.Inn) impl.Inn {
	t.Helper()
	k := mustToken(t, 1, 5, 70, 100, 20)
	var calls []func(impl.Inn) impl.Inn
	for _, h := range []impl.Hello{
		mustGreetWith(t, 9, false, k, true, 90), mustGreetWith(t, 9, true, k, false, 90), mustGreet(t, 9, false), noHello,
	} {
		for _, wish := range []int64{0, 1, 2, 3, 4} {
			for _, draw := range []int64{0, 12} {
				calls = append(calls, func(n impl.Inn) impl.Inn { n, _, _ = impl.Greet(n, 1, h, 90, wish, draw); return n })
			}
		}
	}
	for seat := int64(-1); seat <= 9; seat++ {
		for i := range 4 {
			calls = append(calls, func(n impl.Inn) impl.Inn {
				boxes := ownBoxes(n, seat)
				n, _ = impl.Hand(n, seat, boxes[i%len(boxes)])
				return n
			})
		}
	}
	for _, now := range []int64{-1, 0, 5, 90, 100001} {
		calls = append(calls, func(n impl.Inn) impl.Inn { n, _ = impl.Fallen(n, now); return n })
	}
	return calls
}

// innRooms is one row of memory for all the draws Seen, one for all Seats, and one for the Words of all their Logs.
type innRooms struct {
	seen  []int64
	seats []impl.Seat
	words []impl.Word
}

// oneHouse is an Inn whose lists lie in such rooms, with spare room behind each: what is behind a Log is the Log of the next Seat.
func oneHouse(seen, seats, words int, since int64) (impl.Inn, innRooms) {
	r := innRooms{seen: drawsFrom(90, seen+3), seats: seatsLike(seats + 3), words: manyWords(0, (seats+3)*words+3)}
	for i := range r.seats {
		s := &r.seats[i]
		s.Log = r.words[i*words : (i+1)*words]
		for j := range s.Log {
			s.Log[j].Early = i%2 == 0
		}
	}
	return impl.Inn{Memory: impl.Memory{Seen: r.seen[:seen], Since: since}, Seats: r.seats[:seats]}, r
}

// cloned has its own memory for all of them.
func (r innRooms) cloned() innRooms {
	return innRooms{slices.Clone(r.seen), cloneInn(impl.Inn{Seats: r.seats}).Seats, slices.Clone(r.words)}
}

func (r innRooms) same(other innRooms) bool {
	return slices.Equal(r.seen, other.seen) && slices.EqualFunc(r.seats, other.seats, sameSeat) && slices.Equal(r.words, other.words)
}

func (r innRooms) overwrite() {
	overwrite(r.seen, 99)
	overwrite(r.words, impl.Word{Text: "overwritten", Early: true})
	overwrite(r.seats, impl.Seat{State: 9})
}

// innSizes are how many are Seen, how many Seats there are, how many Words each of them heard, and since when it knows.
var innSizes = [][4]int{
	{0, 0, 0, 0}, {0, 1, 0, 0}, {1, 0, 0, 0}, {1, 1, 1, 0}, {3, 2, 2, 0}, {2, 3, 7, 0}, {5, 7, 3, 0}, {6, 7, 0, 0}, {6, 8, 2, 0},
	{0, 8, 59, 0}, {1, 8, 60, 0}, {2, 5, 60, 60}, {3, 4, 1, 90}, {7, 2, 1, 0}, {2, 9, 1, 0}, {2, 3, 61, 0}, {2, 3, 1, -1}, {7, 9, 61, -1},
}

func TestInnArgumentsStay(t *testing.T) {
	calls := innCalls(t)
	for _, size := range innSizes {
		for i, call := range calls {
			n, rooms := oneHouse(size[0], size[1], size[2], int64(size[3]))
			given, kept := rooms.cloned(), cloneInn(n)
			impl.InnOk(n)
			got := call(n)
			if !rooms.same(given) || !sameInn(n, kept) {
				t.Fatalf("size %v, call %d: of %v now %v", size, i, kept, n)
			}
			// Nor does it change by what is done to the answer.
			for _, s := range got.Seats {
				overwrite(s.Log, impl.Word{Text: "overwritten", Early: true})
			}
			overwrite(got.Memory.Seen, 99)
			overwrite(got.Seats, impl.Seat{State: 9})
			if !rooms.same(given) || !sameInn(n, kept) {
				t.Fatalf("size %v, call %d: behind its answer of %v now %v", size, i, kept, n)
			}
		}
	}
}

// TestInnAnswersAreNew: an answer stays as it was, whatever is done to the argument, and each list of it whatever is done to the others.
func TestInnAnswersAreNew(t *testing.T) {
	for i, call := range innCalls(t) {
		for _, size := range innSizes {
			n, rooms := oneHouse(size[0], size[1], size[2], int64(size[3]))
			got := call(n)
			want := cloneInn(got)
			rooms.overwrite()
			if !sameInn(got, want) {
				t.Fatalf("size %v, call %d: the answer was %v, now it is %v", size, i, want, got)
			}
			logs := make([][]impl.Word, len(got.Seats))
			for j, s := range got.Seats {
				logs[j] = s.Log
			}
			overwrite(got.Seats[len(got.Seats):], impl.Seat{State: 9})
			overwrite(got.Memory.Seen[len(got.Memory.Seen):], 99)
			if !sameInn(got, want) {
				t.Fatalf("size %v, call %d: the answer was %v, by its spare room it is %v", size, i, want, got)
			}
			// One Log after the other is written over, with its spare room; those behind it must stay.
			for j := range logs {
				overwrite(logs[j], impl.Word{Text: "overwritten", Early: true})
				for later := j + 1; later < len(logs); later++ {
					if !slices.Equal(logs[later], want.Seats[later].Log) {
						t.Fatalf("size %v, call %d: log %d is written over by log %d", size, i, later, j)
					}
				}
			}
			if !slices.Equal(got.Memory.Seen, want.Memory.Seen) {
				t.Fatalf("size %v, call %d: what was Seen is %v, now it is %v", size, i, want.Memory.Seen, got.Memory.Seen)
			}
		}
	}
}

// TestInnsAtEachNumber: each number of an Inn, of a greeting, of a box and of a call is each of these once, right or wrong, and nothing panics.
func TestInnsAtEachNumber(t *testing.T) {
	k := mustToken(t, 1, 5, 70, 100, 20)
	first := mustGreetWith(t, 9, false, k, true, 90)
	base := impl.Inn{Memory: impl.Memory{Seen: []int64{7, 8}}, Seats: seatsLike(6)}
	for _, m := range append(slices.Clone(guestNumbers), 28, 29, 90, 1<<32+90) {
		inns := []impl.Inn{
			changedInn(base, func(n *impl.Inn) { n.Memory.Since = m }),
			changedInn(base, func(n *impl.Inn) { n.Memory.Seen[0] = m }),
			changedInn(base, func(n *impl.Inn) { n.Memory.Seen[1] = m }),
			changedInn(base, func(n *impl.Inn) { n.Memory = impl.Memory{Seen: []int64{m}, Since: m} }),
		}
		for i := range base.Seats {
			for _, change := range changesToSeat(m) {
				inns = append(inns, changedInn(base, func(n *impl.Inn) { change(&n.Seats[i]) }))
				inns = append(inns, changedInn(base, func(n *impl.Inn) { fitSeat(change)(&n.Seats[i]) }))
			}
		}
		for _, n := range inns {
			checkInnOk(t, "each number", n)
			checkGreet(t, "each number", n, 1, first, 90, impl.WiEarly, 12)
			checkFallen(t, "each number", n, 90)
			for seat := range int64(len(n.Seats)) {
				for _, b := range ownBoxes(n, seat) {
					checkHand(t, "each number", n, seat, b)
				}
			}
		}
		for _, h := range []impl.Hello{
			changedHello(first, func(h *impl.Hello) { h.Draw = m }), boundHello(k, m, 20, true),
			changedHello(first, func(h *impl.Hello) { h.Age = m }), boundHello(k, 9, m, true),
			changedHello(first, func(h *impl.Hello) { h.Seal.No = m }), changedHello(first, func(h *impl.Hello) { h.Bind.No = m }),
			changedHello(first, func(h *impl.Hello) { h.Seal.Key.Secret = m }), changedHello(first, func(h *impl.Hello) { h.Bind.Key.Secret = m }),
		} {
			for _, wish := range rightWishes {
				checkGreet(t, "each number of a greeting", base, 1, h, 90, wish, 12)
			}
		}
		checkGreet(t, "each inn", base, m, first, 90, impl.WiEarly, 12)
		checkGreet(t, "each now", base, 1, first, m, impl.WiEarly, 12)
		checkGreet(t, "each wish", base, 1, first, 90, m, 12)
		checkGreet(t, "each draw", base, 1, first, 90, impl.WiEarly, m)
		checkGreet(t, "all of them", base, m, first, m, m, m)
		checkFallen(t, "each now", base, m)
		for seat := range int64(len(base.Seats)) {
			for _, own := range ownBoxes(base, seat) {
				checkHand(t, "each seat", base, m, own)
				for _, b := range changesToBox(own, m) {
					checkHand(t, "each number of a box", base, seat, b)
				}
			}
		}
	}
}

// TestInnAnswersDoNotHangOnCallsAhead: what was greeted or handed to another Inn ahead of a call, or to the same one, is of no matter.
func TestInnAnswersDoNotHangOnCallsAhead(t *testing.T) {
	h := mustGreetWith(t, 9, false, mustToken(t, 1, 5, 70, 100, 20), true, 90)
	for range 3 {
		for _, n := range append(innsLike(impl.Memory{}), append(innsLike(impl.Memory{Seen: []int64{9}}), wrongInns(t)[:20]...)...) {
			for range 2 {
				checkInnOk(t, "behind another one", n)
				checkGreet(t, "behind another one", n, 1, h, 90, impl.WiEarly, 12)
				checkGreet(t, "behind another one", n, 2, h, 90, impl.WiAgain, 12)
				for seat := range int64(len(n.Seats)) {
					for _, b := range ownBoxes(n, seat) {
						checkHand(t, "behind another one", n, seat, b)
					}
				}
				checkFallen(t, "behind another one", n, 95)
			}
		}
	}
}
