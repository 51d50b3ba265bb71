package tests

import (
	"fmt"
	"math"
	"slices"
	"strings"
	"testing"

	"loop.example/g00558/impl"
)

var noSeat = impl.Seat{}

// wordsLike are these texts as Words; what ends in a * is Early.
func wordsLike(texts ...string) []impl.Word {
	var list []impl.Word
	for _, s := range texts {
		text, early := strings.CutSuffix(s, "*")
		list = append(list, impl.Word{Text: text, Early: early})
	}
	return list
}

// manyWords are so many, no two alike, the first ones of them Early.
func manyWords(early, others int) []impl.Word {
	list := make([]impl.Word, 0, early+others)
	for i, text := range numbered(early + others) {
		list = append(list, impl.Word{Text: text, Early: i < early})
	}
	return list
}

// seatKeys are what chapter 14 tells of the Keys of its two Rows; the first one is zero where there must be no such Row.
func seatKeys(s impl.Seat, secret int64) (impl.Key, impl.Key) {
	early := noKey
	if s.State == 1 && s.Pick == 3 {
		early = impl.Key{Use: 1, Secret: secret, Hello: s.Hello}
	}
	return early, impl.Key{Use: 4, Secret: secret, Hello: s.Hello, Answer: s.Draw}
}

// seatIsRight goes through chapter 14, sentence by sentence.
func seatIsRight(s impl.Seat) bool {
	secret := s.Forth.Key.Secret
	early, forth := seatKeys(s, secret)
	for _, broken := range []bool{
		s.State != 1 && s.State != 2,
		!isDraw(s.Hello),
		!isDraw(s.Draw),
		s.Pick < 1 || s.Pick > 3,
		s.Pick == 1 && secret != 0,
		s.Pick != 1 && !isDraw(secret),
		s.Forth.Key != forth,
		s.Forth.No < 0 || s.Forth.No > 1000,
		s.Early.Key != early,
		s.Early.No < 0 || s.Early.No > 1000,
		early == noKey && s.Early.No != 0,
		len(s.Log) > 60,
	} {
		if broken {
			return false
		}
	}
	return true
}

func sameSeat(a, b impl.Seat) bool {
	return a.State == b.State && a.Hello == b.Hello && a.Draw == b.Draw && a.Pick == b.Pick &&
		a.Early == b.Early && a.Forth == b.Forth && slices.Equal(a.Log, b.Log)
}

func cloneSeat(s impl.Seat) impl.Seat {
	s.Log = slices.Clone(s.Log)
	return s
}

func changedSeat(s impl.Seat, change func(s *impl.Seat)) impl.Seat {
	s = cloneSeat(s)
	change(&s)
	return s
}

// The models go through chapter 14, sentence by sentence.

func wantNewSeat(hello, draw, pick, secret int64) (impl.Seat, bool) {
	s := impl.Seat{State: 1, Hello: hello, Draw: draw, Pick: pick}
	s.Early.Key, s.Forth.Key = seatKeys(s, secret)
	if !seatIsRight(s) {
		return noSeat, false
	}
	return s, true
}

func wantHears(s impl.Seat, b impl.Box) (impl.Seat, int64) {
	if !seatIsRight(s) {
		return noSeat, 0
	}
	takes := func(r impl.Row) bool {
		_, _, is := wantTake(r, b)
		return is
	}
	words := len(s.Log)
	switch {
	case s.State == 1 && takes(s.Early) && words < 60:
		return changedSeat(s, func(s *impl.Seat) {
			s.Early.No, s.Log = s.Early.No+1, append(s.Log, impl.Word{Text: b.Text, Early: true})
		}), 1
	case s.State == 1 && takes(s.Forth) && b.Text == fmt.Sprintf("end%d", words):
		return changedSeat(s, func(s *impl.Seat) { s.State, s.Early, s.Forth.No = 2, noRow, s.Forth.No+1 }), 2
	case s.State == 2 && takes(s.Forth) && words < 60:
		return changedSeat(s, func(s *impl.Seat) {
			s.Forth.No, s.Log = s.Forth.No+1, append(s.Log, impl.Word{Text: b.Text})
		}), 3
	}
	return s, 0
}

// wantLogOf asks nothing of the Seat, as the chapter names nothing for one that is not right.
func wantLogOf(s impl.Seat) []string {
	var list []string
	for _, w := range s.Log {
		list = append(list, w.Text)
	}
	return list
}

func wantEarlyIn(s impl.Seat) int64 {
	count := int64(0)
	for _, w := range s.Log {
		if w.Early {
			count++
		}
	}
	return count
}

func checkSeatOk(t *testing.T, name string, s impl.Seat) bool {
	t.Helper()
	want := seatIsRight(s)
	if got := impl.SeatOk(s); got != want {
		t.Fatalf("%s: SeatOk(%v) = %v", name, s, got)
	}
	return want
}

func checkNewSeat(t *testing.T, name string, hello, draw, pick, secret int64) (impl.Seat, bool) {
	t.Helper()
	want, right := wantNewSeat(hello, draw, pick, secret)
	got, is := impl.NewSeat(hello, draw, pick, secret)
	if !sameSeat(got, want) || is != right || is && !impl.SeatOk(got) {
		t.Fatalf("%s: NewSeat(%d, %d, %d, %d) = %v, %v", name, hello, draw, pick, secret, got, is)
	}
	return got, is
}

// checkHears wants what the model wants, and of a right Seat none but a right one.
func checkHears(t *testing.T, name string, s impl.Seat, b impl.Box) (impl.Seat, int64) {
	t.Helper()
	want, code := wantHears(s, b)
	got, heard := impl.Hears(s, b)
	if !sameSeat(got, want) || heard != code {
		t.Fatalf("%s: Hears(%v, %v) = %v, %d, not %v, %d", name, s, b, got, heard, want, code)
	}
	if seatIsRight(s) && !impl.SeatOk(got) {
		t.Fatalf("%s: Hears(%v, %v) = %v, which is not right", name, s, b, got)
	}
	return got, heard
}

func checkLog(t *testing.T, name string, s impl.Seat) {
	t.Helper()
	if got := impl.LogOf(s); !slices.Equal(got, wantLogOf(s)) {
		t.Fatalf("%s: LogOf(%v) = %q", name, s, got)
	}
	if got := impl.EarlyIn(s); got != wantEarlyIn(s) {
		t.Fatalf("%s: EarlyIn(%v) = %d", name, s, got)
	}
}

func mustSeat(t *testing.T, hello, draw, pick, secret int64) impl.Seat {
	t.Helper()
	s, is := impl.NewSeat(hello, draw, pick, secret)
	if !is {
		t.Fatalf("NewSeat(%d, %d, %d, %d) is false", hello, draw, pick, secret)
	}
	return s
}

// withItsRows is s with the Keys that it must have: by secret 5, or 0 of PkFull.
func withItsRows(s impl.Seat) impl.Seat {
	secret := int64(5)
	if s.Pick == 1 {
		secret = 0
	}
	s.Early.Key, s.Forth.Key = seatKeys(s, secret)
	if s.Early.Key == noKey {
		s.Early = noRow
	}
	return s
}

// fitSeat makes the Rows follow what was changed ahead of them, so that they are not what makes a Seat wrong.
func fitSeat(change func(s *impl.Seat)) func(s *impl.Seat) {
	return func(s *impl.Seat) {
		change(s)
		*s = withItsRows(*s)
	}
}

// seatBase is a right Seat, told by its letter.
type seatBase struct {
	letter string
	seat   impl.Seat
}

const allSeats = "fkeFKE"

// seatBases are of hello 9 and draw 12, of each pick: in small letters such as wait, in large ones such as are open.
func seatBases() []seatBase {
	bases := []seatBase{
		{"f", impl.Seat{State: impl.SeWaits, Pick: impl.PkFull}},
		{"k", impl.Seat{State: impl.SeWaits, Pick: impl.PkToken}},
		{"e", impl.Seat{State: impl.SeWaits, Pick: impl.PkEarly, Early: impl.Row{No: 2}, Log: wordsLike("a*", "b*")}},
		{"F", impl.Seat{State: impl.SeOpen, Pick: impl.PkFull, Forth: impl.Row{No: 3}, Log: wordsLike("a", "b")}},
		{"K", impl.Seat{State: impl.SeOpen, Pick: impl.PkToken, Forth: impl.Row{No: 3}, Log: wordsLike("a", "b")}},
		{"E", impl.Seat{State: impl.SeOpen, Pick: impl.PkEarly, Forth: impl.Row{No: 2}, Log: wordsLike("a*", "b*", "c")}},
	}
	for i := range bases {
		s := &bases[i].seat
		s.Hello, s.Draw = 9, 12
		*s = withItsRows(*s)
	}
	return bases
}

// seatOf is the base of that letter with another Log, and its Rows at these numbers; of who has no Early row its number is 0.
func seatOf(t *testing.T, letter string, early, forth int64, log []impl.Word) impl.Seat {
	t.Helper()
	for _, b := range seatBases() {
		if b.letter == letter {
			return changedSeat(b.seat, fitSeat(func(s *impl.Seat) { s.Early.No, s.Forth.No, s.Log = early, forth, log }))
		}
	}
	t.Fatalf("no seat %s", letter)
	return noSeat
}

func TestSeatConstants(t *testing.T) {
	got := []int64{impl.SeWaits, impl.SeOpen, impl.HeNone, impl.HeEarly, impl.HeEnd, impl.HeWord}
	if want := []int64{1, 2, 0, 1, 2, 3}; !slices.Equal(got, want) {
		t.Fatalf("%d", got)
	}
}

// seatChange makes one thing of a right Seat another one; right are the letters of the bases that stay right by it.
type seatChange struct {
	name   string
	right  string
	change func(s *impl.Seat)
}

func checkSeatChanges(t *testing.T, changes []seatChange) {
	t.Helper()
	for _, c := range changes {
		for _, b := range seatBases() {
			s := changedSeat(b.seat, c.change)
			want := strings.Contains(c.right, b.letter)
			if got := impl.SeatOk(s); got != want {
				t.Errorf("%s, of %s: SeatOk(%v) = %v", c.name, b.letter, s, got)
			}
			if seatIsRight(s) != want {
				t.Errorf("%s, of %s: the model", c.name, b.letter)
			}
		}
	}
}

func TestSeatOkOfBases(t *testing.T) {
	letters := ""
	for _, b := range seatBases() {
		letters += b.letter
		if !impl.SeatOk(b.seat) || !seatIsRight(b.seat) {
			t.Errorf("%s: SeatOk(%v) = %v", b.letter, b.seat, impl.SeatOk(b.seat))
		}
	}
	if letters != allSeats {
		t.Fatalf("bases %s", letters)
	}
	if impl.SeatOk(noSeat) {
		t.Error("SeatOk of the zero Seat")
	}
}

func TestSeatOkByState(t *testing.T) {
	state := func(n int64) func(s *impl.Seat) { return func(s *impl.Seat) { s.State = n } }
	changes := []seatChange{
		{"as it is", allSeats, func(s *impl.Seat) {}},
		// Who waits and is of PkEarly has an Early row, who is open has none.
		{"SeWaits", "fkeFK", state(1)},
		{"SeWaits, with its rows", allSeats, fitSeat(state(1))},
		{"SeOpen", "fkFKE", state(2)},
		{"SeOpen, with its rows", allSeats, fitSeat(state(2))},
	}
	for _, n := range []int64{math.MinInt64, -2, -1, 0, 3, 4, 1 << 32, 1<<32 + 1, 1<<32 + 2, math.MaxInt64} {
		changes = append(changes,
			seatChange{fmt.Sprint("State ", n), "", state(n)},
			seatChange{fmt.Sprint("State ", n, ", with its rows"), "", fitSeat(state(n))},
		)
	}
	checkSeatChanges(t, changes)
}

func TestSeatOkByHelloAndDraw(t *testing.T) {
	hello := func(n int64) func(s *impl.Seat) { return func(s *impl.Seat) { s.Hello = n } }
	draw := func(n int64) func(s *impl.Seat) { return func(s *impl.Seat) { s.Draw = n } }
	both := func(n int64) func(s *impl.Seat) { return func(s *impl.Seat) { s.Hello, s.Draw = n, n } }
	changes := []seatChange{
		{"another Hello", "", hello(10)},
		{"another Hello, with its rows", allSeats, fitSeat(hello(10))},
		{"another Hello, with its Forth alone", "fkFKE", func(s *impl.Seat) { s.Hello, s.Forth.Key.Hello = 10, 10 }},
		{"another Hello, with its Early alone", "", func(s *impl.Seat) { s.Hello, s.Early.Key.Hello = 10, 10 }},
		{"the least Hello", allSeats, fitSeat(hello(1))},
		{"the largest Hello", allSeats, fitSeat(hello(100000))},
		{"another Draw", "", draw(13)},
		{"another Draw, with its rows", allSeats, fitSeat(draw(13))},
		{"the least Draw", allSeats, fitSeat(draw(1))},
		{"the largest Draw", allSeats, fitSeat(draw(100000))},
		{"both alike", allSeats, fitSeat(both(9))},
		{"both the least", allSeats, fitSeat(both(1))},
		{"both the largest", allSeats, fitSeat(both(100000))},
		{"one for the other", "", func(s *impl.Seat) { s.Hello, s.Draw = 12, 9 }},
		{"one for the other, with its rows", allSeats, fitSeat(func(s *impl.Seat) { s.Hello, s.Draw = 12, 9 })},
	}
	for _, n := range noDraws {
		for _, change := range []func(s *impl.Seat){hello(n), draw(n), both(n)} {
			// With a zero Key that no maker of keys refuses, either.
			bare := func(s *impl.Seat) { change(s); s.Early, s.Forth = noRow, noRow }
			changes = append(changes,
				seatChange{"no draw", "", change},
				seatChange{"no draw, with its rows", "", fitSeat(change)},
				seatChange{"no draw, without a row", "", bare},
				seatChange{"no draw, without a row, of PkFull", "", func(s *impl.Seat) { bare(s); s.Pick = 1 }},
			)
		}
	}
	checkSeatChanges(t, changes)
}

func TestSeatOkByPick(t *testing.T) {
	pick := func(n int64) func(s *impl.Seat) { return func(s *impl.Seat) { s.Pick = n } }
	changes := []seatChange{
		{"PkFull", "fF", pick(impl.PkFull)},
		{"PkFull, with its rows", allSeats, fitSeat(pick(impl.PkFull))},
		{"PkToken", "kKE", pick(impl.PkToken)},
		{"PkToken, with its rows", allSeats, fitSeat(pick(impl.PkToken))},
		{"PkEarly", "eKE", pick(impl.PkEarly)},
		{"PkEarly, with its rows", allSeats, fitSeat(pick(impl.PkEarly))},
		{"PkAgain, without an Early row", "", func(s *impl.Seat) { s.Pick, s.Early = impl.PkAgain, noRow }},
		{"PkAgain, none is shared", "", func(s *impl.Seat) { s.Pick, s.Early, s.Forth.Key.Secret = impl.PkAgain, noRow, 0 }},
	}
	for _, n := range eachPick {
		if n < 1 || n > 3 {
			changes = append(changes,
				seatChange{"no pick of a Seat", "", pick(n)},
				seatChange{"no pick of a Seat, with its rows", "", fitSeat(pick(n))},
				seatChange{"no pick of a Seat, none is shared", "", func(s *impl.Seat) { s.Pick, s.Forth.Key.Secret = n, 0 }},
			)
		}
	}
	checkSeatChanges(t, changes)
}

func TestSeatOkBySecret(t *testing.T) {
	forth := func(n int64) func(s *impl.Seat) { return func(s *impl.Seat) { s.Forth.Key.Secret = n } }
	early := func(n int64) func(s *impl.Seat) { return func(s *impl.Seat) { s.Early.Key.Secret = n } }
	both := func(n int64) func(s *impl.Seat) {
		return func(s *impl.Seat) {
			s.Forth.Key.Secret = n
			if s.Early.Key != noKey {
				s.Early.Key.Secret = n
			}
		}
	}
	changes := []seatChange{
		{"secret 0 of Forth", "fF", forth(0)},
		{"secret 0 of both", "fF", both(0)},
		{"secret 0 of Early", "fkFKE", early(0)},
		{"secret 5 of Forth", "keKE", forth(5)},
		{"secret 5 of Early", "e", early(5)},
		{"another secret of Early", "", early(6)},
		{"no secret of Early", "", early(100001)},
		{"a secret of Early below 0", "", early(-5)},
		{"secret 6 of Early, 5 of Forth", "", func(s *impl.Seat) { s.Forth.Key.Secret, s.Early.Key.Secret = 5, 6 }},
	}
	for _, n := range []int64{1, 2, 6, 9, 12, 99999, 100000} {
		changes = append(changes,
			seatChange{fmt.Sprint("secret ", n, " of Forth"), "kKE", forth(n)},
			seatChange{fmt.Sprint("secret ", n, " of both"), "keKE", both(n)},
		)
	}
	for _, n := range []int64{math.MinInt64, -100000, -5, -1, 100001, 100002, 1<<32 + 5, math.MaxInt64} {
		changes = append(changes,
			seatChange{fmt.Sprint("secret ", n, " of Forth"), "", forth(n)},
			seatChange{fmt.Sprint("secret ", n, " of both"), "", both(n)},
		)
	}
	checkSeatChanges(t, changes)
}

// rightNos and wrongNos are the numbers that a Row may have and may not have, with those around each end.
var (
	rightNos = []int64{0, 1, 2, 60, 61, 999, 1000}
	wrongNos = []int64{math.MinInt64, -1000, -2, -1, 1001, 1002, 1<<32 + 3, math.MaxInt64}
)

func TestSeatOkByForth(t *testing.T) {
	key := func(k impl.Key) func(s *impl.Seat) { return func(s *impl.Seat) { s.Forth.Key = k } }
	no := func(n int64) func(s *impl.Seat) { return func(s *impl.Seat) { s.Forth.No = n } }
	changes := []seatChange{
		{"its key by 5", "keKE", key(impl.ForthKey(5, 9, 12))},
		{"its key by 0", "fF", key(impl.ForthKey(0, 9, 12))},
		{"no key", "", key(noKey)},
		{"no row", "", func(s *impl.Seat) { s.Forth = noRow }},
		{"no row, and none is shared", "", func(s *impl.Seat) { s.Forth, s.Pick, s.Early = noRow, 1, noRow }},
		{"its Early", "", func(s *impl.Seat) { s.Forth = s.Early }},
		{"another Hello", "", func(s *impl.Seat) { s.Forth.Key.Hello = 10 }},
		{"another Draw", "", func(s *impl.Seat) { s.Forth.Key.Answer = 13 }},
		{"one for the other", "", func(s *impl.Seat) { s.Forth.Key.Hello, s.Forth.Key.Answer = 12, 9 }},
		{"no Hello", "", func(s *impl.Seat) { s.Forth.Key.Hello = 0 }},
		{"no Draw", "", func(s *impl.Seat) { s.Forth.Key.Answer = 0 }},
	}
	for _, use := range keyUses {
		if use == impl.KyForth {
			continue
		}
		changes = append(changes, seatChange{fmt.Sprint("of use ", use), "", func(s *impl.Seat) { s.Forth.Key.Use = use }})
		for _, secret := range []int64{0, 5} {
			k := impl.Key{Use: use, Secret: secret}
			if use < impl.KyToken {
				k.Hello = 9
			}
			if use == impl.KyHand || use == impl.KyBack {
				k.Answer = 12
			}
			changes = append(changes, seatChange{fmt.Sprint("a key of use ", use), "", key(k)})
		}
	}
	for _, n := range rightNos {
		changes = append(changes, seatChange{fmt.Sprint("No ", n), allSeats, no(n)})
	}
	for _, n := range wrongNos {
		changes = append(changes, seatChange{fmt.Sprint("No ", n), "", no(n)})
	}
	checkSeatChanges(t, changes)
}

func TestSeatOkByEarly(t *testing.T) {
	row := func(r impl.Row) func(s *impl.Seat) { return func(s *impl.Seat) { s.Early = r } }
	key := func(k impl.Key) func(s *impl.Seat) { return row(impl.Row{Key: k}) }
	changes := []seatChange{
		{"no row", "fkFKE", row(noRow)},
		{"a row without a key, at 1", "", row(impl.Row{No: 1})},
		{"a row without a key, at the most", "", row(impl.Row{No: 1000})},
		{"a row without a key, at a wrong number", "", row(impl.Row{No: -1})},
		{"its key", "e", key(impl.EarlyKey(5, 9))},
		{"its key by 0", "", key(impl.EarlyKey(0, 9))},
		{"its key by another secret", "", key(impl.EarlyKey(6, 9))},
		{"of another Hello", "", key(impl.EarlyKey(5, 10))},
		{"of its Draw", "", key(impl.EarlyKey(5, 12))},
		{"a key with an Answer", "", key(impl.Key{Use: impl.KyEarly, Secret: 5, Hello: 9, Answer: 12})},
		{"a key without a Hello", "", key(impl.Key{Use: impl.KyEarly, Secret: 5})},
		{"BindKey", "", key(impl.BindKey(5, 9))},
		{"TokenKey", "", key(impl.TokenKey(5))},
		{"HandKey", "", key(impl.HandKey(5, 9, 12))},
		{"ForthKey", "", key(impl.ForthKey(5, 9, 12))},
		{"ForthKey by 0", "", key(impl.ForthKey(0, 9, 12))},
		{"BackKey", "", key(impl.BackKey(5, 9, 12))},
		{"its Forth", "", func(s *impl.Seat) { s.Early = s.Forth }},
	}
	for _, use := range keyUses {
		if use != impl.KyEarly {
			changes = append(changes, seatChange{fmt.Sprint("a key of use ", use), "", key(impl.Key{Use: use, Secret: 5, Hello: 9})})
		}
	}
	for _, n := range rightNos {
		changes = append(changes, seatChange{fmt.Sprint("No ", n), "e", row(impl.Row{Key: impl.EarlyKey(5, 9), No: n})})
	}
	for _, n := range wrongNos {
		changes = append(changes,
			seatChange{fmt.Sprint("No ", n), "", row(impl.Row{Key: impl.EarlyKey(5, 9), No: n})},
			seatChange{fmt.Sprint("no key, No ", n), "", row(impl.Row{No: n})},
		)
	}
	checkSeatChanges(t, changes)
}

// TestSeatOkByLog: a Log may have any Words, if they are not too many: the chapter asks nothing of their texts or of their order.
func TestSeatOkByLog(t *testing.T) {
	log := func(list []impl.Word) func(s *impl.Seat) { return func(s *impl.Seat) { s.Log = list } }
	all := make([]impl.Word, 0)
	for _, text := range append(slices.Clone(wrongTexts), boxTexts...) {
		all = append(all, impl.Word{Text: text}, impl.Word{Text: text, Early: true})
	}
	changes := []seatChange{
		{"nothing", allSeats, log(nil)},
		{"an empty one", allSeats, log([]impl.Word{})},
		{"one Word", allSeats, log(wordsLike("a"))},
		{"one Early one", allSeats, log(wordsLike("a*"))},
		{"the zero Word", allSeats, log([]impl.Word{{}})},
		{"an Early one without a text", allSeats, log(wordsLike("*"))},
		{"Early ones ahead of others", allSeats, log(wordsLike("a*", "b*", "c"))},
		{"Early ones behind others", allSeats, log(wordsLike("a", "b*"))},
		{"Early ones between others", allSeats, log(wordsLike("a", "b*", "c", "d*"))},
		{"the same one twice", allSeats, log(wordsLike("a", "a"))},
		{"the end", allSeats, log(wordsLike("end0", "end1*"))},
		{"what is no text", allSeats, log(all[:60])},
		{"what is no text, behind those", allSeats, log(all[len(all)-60:])},
		{"59 Words", allSeats, log(manyWords(0, 59))},
		{"60 Words", allSeats, log(manyWords(0, 60))},
		{"60 Early ones", allSeats, log(manyWords(60, 0))},
		{"60 of both", allSeats, log(manyWords(20, 40))},
		{"60 zero Words", allSeats, log(make([]impl.Word, 60))},
		{"60 Words and spare room", allSeats, log(manyWords(30, 40)[:60])},
		{"61 Words", "", log(manyWords(0, 61))},
		{"61 Early ones", "", log(manyWords(61, 0))},
		{"61 of both", "", log(manyWords(20, 41))},
		{"61 zero Words", "", log(make([]impl.Word, 61))},
		{"many Words", "", log(manyWords(100, 900))},
	}
	for n := range 70 {
		right := allSeats
		if n > 60 {
			right = ""
		}
		changes = append(changes, seatChange{fmt.Sprint(n, " Words"), right, log(manyWords(n/2, n-n/2))})
	}
	checkSeatChanges(t, changes)
}

// eachSeat goes through all of these numbers and rows together, right and wrong.
func eachSeat(f func(impl.Seat)) {
	numbers := []int64{-1, 0, 9, 12, 100000, 100001}
	rows := []impl.Row{
		noRow, {No: 1}, {Key: impl.EarlyKey(5, 9)}, {Key: impl.EarlyKey(5, 9), No: 1000}, {Key: impl.EarlyKey(5, 9), No: 1001},
		{Key: impl.EarlyKey(0, 9)}, {Key: impl.EarlyKey(100000, 9), No: 3}, {Key: impl.EarlyKey(5, 12)}, {Key: impl.EarlyKey(5, 100000), No: 7},
		{Key: impl.ForthKey(5, 9, 12)}, {Key: impl.ForthKey(0, 9, 12), No: 1000}, {Key: impl.ForthKey(5, 9, 12), No: 1001},
		{Key: impl.ForthKey(0, 9, 12), No: -1}, {Key: impl.ForthKey(100000, 9, 12), No: 5}, {Key: impl.ForthKey(5, 12, 9)},
		{Key: impl.ForthKey(0, 12, 12)}, {Key: impl.ForthKey(5, 100000, 100000)}, {Key: impl.ForthKey(0, 9, 100000)},
		{Key: impl.HandKey(5, 9, 12)}, {Key: impl.BackKey(5, 9, 12)}, {Key: impl.BindKey(5, 9)}, {Key: impl.TokenKey(5)},
		{Key: impl.Key{Use: impl.KyForth, Secret: -5, Hello: 9, Answer: 12}},
		{Key: impl.Key{Use: impl.KyForth, Secret: 5, Hello: 9}}, {Key: impl.Key{Use: impl.KyForth, Secret: 5, Answer: 12}},
	}
	logs := [][]impl.Word{nil, wordsLike("a*", "B"), manyWords(20, 40), manyWords(20, 41)}
	for state := range int64(4) {
		for _, hello := range numbers {
			for _, draw := range numbers {
				for pick := range int64(6) {
					for _, early := range rows {
						for _, forth := range rows {
							for _, log := range logs {
								f(impl.Seat{State: state, Hello: hello, Draw: draw, Pick: pick, Early: early, Forth: forth, Log: log})
							}
						}
					}
				}
			}
		}
	}
}

func TestSeatOkOfEach(t *testing.T) {
	right := map[int64]int{}
	eachSeat(func(s impl.Seat) {
		if checkSeatOk(t, "of each", s) {
			right[10*s.State+s.Pick]++
		}
	})
	for _, state := range []int64{1, 2} {
		for _, pick := range finPicks {
			if right[10*state+pick] < 9 {
				t.Fatalf("right are %v", right)
			}
		}
	}
}

func TestNewSeat(t *testing.T) {
	for _, c := range []struct {
		name                      string
		hello, draw, pick, secret int64
		early, forth              impl.Key
		is                        bool
	}{
		{"PkFull", 9, 12, impl.PkFull, 0, noKey, impl.ForthKey(0, 9, 12), true},
		{"PkFull, a secret", 9, 12, impl.PkFull, 5, noKey, noKey, false},
		{"PkFull, the least secret", 9, 12, impl.PkFull, 1, noKey, noKey, false},
		{"PkFull, a secret below 0", 9, 12, impl.PkFull, -1, noKey, noKey, false},
		{"PkFull, a secret past the largest", 9, 12, impl.PkFull, 100001, noKey, noKey, false},
		{"PkToken", 9, 12, impl.PkToken, 5, noKey, impl.ForthKey(5, 9, 12), true},
		{"PkToken, secret 0", 9, 12, impl.PkToken, 0, noKey, noKey, false},
		{"PkToken, the least secret", 9, 12, impl.PkToken, 1, noKey, impl.ForthKey(1, 9, 12), true},
		{"PkToken, the largest secret", 9, 12, impl.PkToken, 100000, noKey, impl.ForthKey(100000, 9, 12), true},
		{"PkToken, a secret below 0", 9, 12, impl.PkToken, -1, noKey, noKey, false},
		{"PkToken, a secret past the largest", 9, 12, impl.PkToken, 100001, noKey, noKey, false},
		{"PkEarly", 9, 12, impl.PkEarly, 5, impl.EarlyKey(5, 9), impl.ForthKey(5, 9, 12), true},
		{"PkEarly, secret 0", 9, 12, impl.PkEarly, 0, noKey, noKey, false},
		{"PkEarly, the least secret", 9, 12, impl.PkEarly, 1, impl.EarlyKey(1, 9), impl.ForthKey(1, 9, 12), true},
		{"PkEarly, the largest secret", 9, 12, impl.PkEarly, 100000, impl.EarlyKey(100000, 9), impl.ForthKey(100000, 9, 12), true},
		{"PkEarly, a secret below 0", 9, 12, impl.PkEarly, -1, noKey, noKey, false},
		{"PkEarly, a secret past the largest", 9, 12, impl.PkEarly, 100001, noKey, noKey, false},
		{"PkAgain", 9, 12, impl.PkAgain, 5, noKey, noKey, false},
		{"PkAgain, secret 0", 9, 12, impl.PkAgain, 0, noKey, noKey, false},
		{"PkAgain, no draw", 9, 0, impl.PkAgain, 0, noKey, noKey, false},
		{"no pick", 9, 12, 0, 5, noKey, noKey, false},
		{"no pick, secret 0", 9, 12, 0, 0, noKey, noKey, false},
		{"a pick below 0", 9, 12, -1, 5, noKey, noKey, false},
		{"one past all picks", 9, 12, 5, 5, noKey, noKey, false},
		{"the least draws", 1, 1, impl.PkEarly, 1, impl.EarlyKey(1, 1), impl.ForthKey(1, 1, 1), true},
		{"the largest draws", 100000, 100000, impl.PkEarly, 100000, impl.EarlyKey(100000, 100000), impl.ForthKey(100000, 100000, 100000), true},
		{"no hello", 0, 12, impl.PkEarly, 5, noKey, noKey, false},
		{"no hello, of PkFull", 0, 12, impl.PkFull, 0, noKey, noKey, false},
		{"a hello past the largest", 100001, 12, impl.PkToken, 5, noKey, noKey, false},
		{"a hello below 0", -9, 12, impl.PkToken, 5, noKey, noKey, false},
		{"no draw", 9, 0, impl.PkEarly, 5, noKey, noKey, false},
		{"no draw, of PkFull", 9, 0, impl.PkFull, 0, noKey, noKey, false},
		{"a draw past the largest", 9, 100001, impl.PkToken, 5, noKey, noKey, false},
		{"a draw below 0", 9, -12, impl.PkToken, 5, noKey, noKey, false},
		{"nothing is a draw", 0, 0, impl.PkFull, 0, noKey, noKey, false},
	} {
		want := noSeat
		if c.is {
			want = impl.Seat{State: 1, Hello: c.hello, Draw: c.draw, Pick: c.pick, Early: impl.Row{Key: c.early}, Forth: impl.Row{Key: c.forth}}
		}
		got, is := impl.NewSeat(c.hello, c.draw, c.pick, c.secret)
		if !sameSeat(got, want) || is != c.is || impl.SeatOk(got) != c.is {
			t.Errorf("%s: NewSeat(%d, %d, %d, %d) = %v, %v", c.name, c.hello, c.draw, c.pick, c.secret, got, is)
		}
		checkNewSeat(t, c.name+", the model", c.hello, c.draw, c.pick, c.secret)
	}
}

// TestNewSeatOfEach: there is a Seat where there is an Answer that has a draw, of just those numbers, and nowhere else.
func TestNewSeatOfEach(t *testing.T) {
	made := 0
	for _, hello := range answerDraws {
		for _, draw := range answerDraws {
			for _, pick := range answerPicks {
				for _, secret := range answerSecrets {
					s, is := checkNewSeat(t, "of each", hello, draw, pick, secret)
					a, answers := impl.Answering(hello, draw, pick, secret)
					if is != (answers && pick != impl.PkAgain) {
						t.Fatalf("NewSeat(%d, %d, %d, %d) is %v, Answering %v", hello, draw, pick, secret, is, answers)
					}
					if !is {
						continue
					}
					made++
					if impl.NextKey(a.Fin.Key) != s.Forth.Key {
						t.Fatalf("behind %v: %v", a, s)
					}
				}
			}
		}
	}
	// Of 7 Hellos and 7 Draws: PkFull by 0, the other two by 6 secrets.
	if made != 6*6*(1+2*6) {
		t.Fatalf("%d were made", made)
	}
}

// hearCase is a box that comes to a Seat, and what it is heard as; all else follows from that.
type hearCase struct {
	name string
	seat impl.Seat
	box  impl.Box
	want int64
}

func (c hearCase) check(t *testing.T) {
	t.Helper()
	got, heard := impl.Hears(c.seat, c.box)
	want := cloneSeat(c.seat)
	switch c.want {
	case impl.HeEarly:
		want.Early.No++
		want.Log = append(want.Log, impl.Word{Text: c.box.Text, Early: true})
	case impl.HeEnd:
		want.State, want.Early = impl.SeOpen, noRow
		want.Forth.No++
	case impl.HeWord:
		want.Forth.No++
		want.Log = append(want.Log, impl.Word{Text: c.box.Text})
	}
	if heard != c.want || !sameSeat(got, want) || !impl.SeatOk(got) {
		t.Errorf("%s: Hears(%v, %v) = %v, %d", c.name, c.seat, c.box, got, heard)
	}
	checkHears(t, c.name+", the model", c.seat, c.box)
}

func TestHearsEarly(t *testing.T) {
	k := impl.EarlyKey(5, 9)
	box := func(no int64, text string) impl.Box { return impl.Box{Key: k, No: no, Text: text} }
	fresh := mustSeat(t, 9, 12, impl.PkEarly, 5)
	some := seatOf(t, "e", 2, 0, wordsLike("a*", "b*"))
	long, full := seatOf(t, "e", 59, 0, manyWords(59, 0)), seatOf(t, "e", 60, 0, manyWords(60, 0))
	for _, c := range []hearCase{
		{"the first one", fresh, box(0, "ab"), impl.HeEarly},
		{"one too early", fresh, box(1, "cd"), impl.HeNone},
		{"the next one", some, box(2, "c"), impl.HeEarly},
		{"one twice", some, box(1, "b"), impl.HeNone},
		{"the first one twice", some, box(0, "a"), impl.HeNone},
		{"one too early, behind some", some, box(3, "d"), impl.HeNone},
		{"far too early", some, box(1000, "d"), impl.HeNone},
		{"the same text again", some, box(2, "b"), impl.HeEarly},
		{"Spoilt", some, impl.Spoil(box(2, "c")), impl.HeNone},
		{"of another secret", some, impl.Box{Key: impl.EarlyKey(6, 9), No: 2, Text: "c"}, impl.HeNone},
		{"of no secret", some, impl.Box{Key: impl.EarlyKey(0, 9), No: 2, Text: "c"}, impl.HeNone},
		{"of another Hello", some, impl.Box{Key: impl.EarlyKey(5, 10), No: 2, Text: "c"}, impl.HeNone},
		{"of another use", some, impl.Box{Key: impl.BindKey(5, 9), No: 2, Text: "c"}, impl.HeNone},
		{"no box", some, noBox, impl.HeNone},
		{"no key", some, impl.Box{No: 2, Text: "c"}, impl.HeNone},
		{"a wrong key", some, impl.Box{Key: impl.Key{Use: impl.KyEarly, Secret: 5}, No: 2, Text: "c"}, impl.HeNone},
		{"a wrong number", some, box(-1, "c"), impl.HeNone},
		{"past all numbers", some, box(1001, "c"), impl.HeNone},
		{"a text that is too long", some, box(2, strings.Repeat("c", 41)), impl.HeNone},
		{"no word of a guest: empty", some, box(2, ""), impl.HeEarly},
		{"no word of a guest: in large letters", some, box(2, "HAY"), impl.HeEarly},
		{"no word of a guest: 13 bytes", some, box(2, strings.Repeat("c", 13)), impl.HeEarly},
		{"no word of a guest: 40 bytes", some, box(2, strings.Repeat("\xff", 40)), impl.HeEarly},
		{"what reads as the end", some, box(2, "end2"), impl.HeEarly},
		{"what reads as the end, first", fresh, box(0, "end0"), impl.HeEarly},
		{"room for one", long, box(59, "y"), impl.HeEarly},
		{"no room", full, box(60, "z"), impl.HeNone},
		{"no room, what reads as the end", full, box(60, "end60"), impl.HeNone},
		{"the row is at its last number but one", seatOf(t, "e", 999, 0, nil), box(999, "c"), impl.HeEarly},
		{"the row is at its most", seatOf(t, "e", 1000, 0, nil), box(1000, "c"), impl.HeNone},
		{"PkToken", seatOf(t, "k", 0, 0, nil), box(0, "ab"), impl.HeNone},
		{"PkFull", seatOf(t, "f", 0, 0, nil), box(0, "ab"), impl.HeNone},
		{"PkFull, by no secret", seatOf(t, "f", 0, 0, nil), impl.Box{Key: impl.EarlyKey(0, 9), Text: "ab"}, impl.HeNone},
		{"behind the end", seatOf(t, "E", 0, 1, wordsLike("a*")), box(1, "b"), impl.HeNone},
		{"behind the end, the first one", seatOf(t, "E", 0, 1, nil), box(0, "a"), impl.HeNone},
		{"behind the end, at Forth's number", seatOf(t, "E", 0, 2, wordsLike("a*", "c")), box(2, "b"), impl.HeNone},
		{"behind the end, of PkToken", seatOf(t, "K", 0, 1, nil), box(0, "a"), impl.HeNone},
		{"others stand there already", seatOf(t, "e", 0, 0, wordsLike("a", "b")), box(0, "c"), impl.HeEarly},
		{"Forth is further", seatOf(t, "e", 0, 7, nil), box(0, "c"), impl.HeEarly},
	} {
		c.check(t)
	}
}

func TestHearsTheEnd(t *testing.T) {
	k := impl.ForthKey(5, 9, 12)
	box := func(text string) impl.Box { return impl.Box{Key: k, Text: text} }
	two := seatOf(t, "e", 2, 0, wordsLike("a*", "b*"))
	none, token, full := mustSeat(t, 9, 12, impl.PkEarly, 5), seatOf(t, "k", 0, 0, nil), seatOf(t, "f", 0, 0, nil)
	byNone := func(text string) impl.Box { return impl.Box{Key: impl.ForthKey(0, 9, 12), Text: text} }
	ten := seatOf(t, "e", 10, 0, manyWords(10, 0))
	cases := []hearCase{
		{"as many as there are", two, box("end2"), impl.HeEnd},
		{"one more", two, box("end3"), impl.HeNone},
		{"one fewer", two, box("end1"), impl.HeNone},
		{"none of two", two, box("end0"), impl.HeNone},
		{"none", none, box("end0"), impl.HeEnd},
		{"one more than none", none, box("end1"), impl.HeNone},
		{"one fewer than none", none, box("end-1"), impl.HeNone},
		{"none, PkToken", token, box("end0"), impl.HeEnd},
		{"one more, PkToken", token, box("end1"), impl.HeNone},
		{"none, PkFull", full, byNone("end0"), impl.HeEnd},
		{"one more, PkFull", full, byNone("end1"), impl.HeNone},
		{"PkFull, by a secret", full, box("end0"), impl.HeNone},
		{"PkToken, by none", token, byNone("end0"), impl.HeNone},
		{"two digits", ten, box("end10"), impl.HeEnd},
		{"two digits, one fewer", ten, box("end9"), impl.HeNone},
		{"two digits, the first one alone", ten, box("end1"), impl.HeNone},
		{"the words may be early or not", seatOf(t, "e", 2, 0, wordsLike("a", "b*", "c")), box("end3"), impl.HeEnd},
		{"not the early ones alone", seatOf(t, "e", 2, 0, wordsLike("a", "b*", "c")), box("end1"), impl.HeNone},
		{"not the number of the row", seatOf(t, "e", 2, 0, wordsLike("a*")), box("end2"), impl.HeNone},
		{"words of PkToken", seatOf(t, "k", 0, 0, wordsLike("a", "b*")), box("end2"), impl.HeEnd},
		{"a full Log", seatOf(t, "e", 60, 0, manyWords(60, 0)), box("end60"), impl.HeEnd},
		{"a full Log, one fewer", seatOf(t, "e", 60, 0, manyWords(60, 0)), box("end59"), impl.HeNone},
		{"a full Log, PkToken", seatOf(t, "k", 0, 0, manyWords(0, 60)), box("end60"), impl.HeEnd},
		{"Spoilt", two, impl.Spoil(box("end2")), impl.HeNone},
		{"another number", two, impl.Box{Key: k, No: 1, Text: "end2"}, impl.HeNone},
		{"the row is further", seatOf(t, "e", 2, 3, wordsLike("a*", "b*")), impl.Box{Key: k, No: 3, Text: "end2"}, impl.HeEnd},
		{"the row is further, the first box", seatOf(t, "e", 2, 3, wordsLike("a*", "b*")), box("end2"), impl.HeNone},
		{"the row is at its last number but one", seatOf(t, "e", 2, 999, wordsLike("a*", "b*")), impl.Box{Key: k, No: 999, Text: "end2"}, impl.HeEnd},
		{"the row is at its most", seatOf(t, "e", 2, 1000, wordsLike("a*", "b*")), impl.Box{Key: k, No: 1000, Text: "end2"}, impl.HeNone},
		{"Early is at its most", seatOf(t, "e", 1000, 0, wordsLike("a*", "b*")), box("end2"), impl.HeEnd},
		{"of another Draw", two, impl.Box{Key: impl.ForthKey(5, 9, 13), Text: "end2"}, impl.HeNone},
		{"of another Hello", two, impl.Box{Key: impl.ForthKey(5, 10, 12), Text: "end2"}, impl.HeNone},
		{"of another secret", two, impl.Box{Key: impl.ForthKey(6, 9, 12), Text: "end2"}, impl.HeNone},
		{"of KyHand", two, impl.Box{Key: impl.HandKey(5, 9, 12), Text: "end2"}, impl.HeNone},
		{"of KyBack", two, impl.Box{Key: impl.BackKey(5, 9, 12), Text: "end2"}, impl.HeNone},
		{"another word where the end must come", two, box("c"), impl.HeNone},
		{"another word of the second box", two, impl.Box{Key: k, No: 1, Text: "c"}, impl.HeNone},
		{"another word, of PkToken", token, box("c"), impl.HeNone},
		{"another word, of PkFull", full, byNone("c"), impl.HeNone},
		{"nothing in it", two, box(""), impl.HeNone},
	}
	for _, text := range []string{
		"end", "end02", "end002", "end+2", "end-2", "end 2", " end2", "end2 ", "end2\n", "end2\x00", "end2a", "end22", "end2-", "end2.0",
		"end2end2", "aend2", "en2", "nd2", "d2", "2", "End2", "END2", "endtwo", "end\x02", "end0x2", "end2e0", "end\u0662", "end\uff12", "2end",
		"end1+1", "end" + strings.Repeat("0", 36) + "2", "end4294967298", "end18446744073709551618",
	} {
		cases = append(cases, hearCase{"text " + text, two, box(text), impl.HeNone})
	}
	for _, text := range []string{"end", "end00", "end-0", "end+0", "end000000000", "end ", "end\x00", "END0", "end0 "} {
		cases = append(cases,
			hearCase{"none, text " + text, none, box(text), impl.HeNone},
			hearCase{"none of PkToken, text " + text, token, box(text), impl.HeNone},
			hearCase{"none of PkFull, text " + text, full, byNone(text), impl.HeNone},
		)
	}
	for _, c := range cases {
		c.check(t)
	}
}

// TestHearsTheEndOfEachCount: a Log of so many Words is ended by that number alone, whoever hears it.
func TestHearsTheEndOfEachCount(t *testing.T) {
	for words := range 61 {
		for _, letter := range []string{"f", "k", "e"} {
			for _, early := range []int{0, words / 2, words} {
				s := seatOf(t, letter, int64(early), 0, manyWords(early, words-early))
				for n := -2; n < 70; n++ {
					want := int64(impl.HeNone)
					if n == words {
						want = impl.HeEnd
					}
					hearCase{"of each count", s, impl.Box{Key: s.Forth.Key, Text: fmt.Sprintf("end%d", n)}, want}.check(t)
				}
			}
		}
	}
}

func TestHearsWords(t *testing.T) {
	k := impl.ForthKey(5, 9, 12)
	box := func(no int64, text string) impl.Box { return impl.Box{Key: k, No: no, Text: text} }
	some := seatOf(t, "E", 0, 2, wordsLike("a*", "c"))
	for _, c := range []hearCase{
		{"the first one behind the end", seatOf(t, "E", 0, 1, wordsLike("a*")), box(1, "c"), impl.HeWord},
		{"the next one", some, box(2, "d"), impl.HeWord},
		{"of PkToken", seatOf(t, "K", 0, 1, nil), box(1, "a"), impl.HeWord},
		{"of PkFull", seatOf(t, "F", 0, 1, nil), impl.Box{Key: impl.ForthKey(0, 9, 12), No: 1, Text: "a"}, impl.HeWord},
		{"of PkFull, by a secret", seatOf(t, "F", 0, 1, nil), box(1, "a"), impl.HeNone},
		{"one too early", some, box(3, "e"), impl.HeNone},
		{"one twice", some, box(1, "c"), impl.HeNone},
		{"the end twice", some, box(0, "end1"), impl.HeNone},
		{"the same text again", some, box(2, "c"), impl.HeWord},
		{"Spoilt", some, impl.Spoil(box(2, "d")), impl.HeNone},
		{"of another secret", some, impl.Box{Key: impl.ForthKey(6, 9, 12), No: 2, Text: "d"}, impl.HeNone},
		{"of another Hello", some, impl.Box{Key: impl.ForthKey(5, 10, 12), No: 2, Text: "d"}, impl.HeNone},
		{"of another Draw", some, impl.Box{Key: impl.ForthKey(5, 9, 13), No: 2, Text: "d"}, impl.HeNone},
		{"of KyHand", some, impl.Box{Key: impl.HandKey(5, 9, 12), No: 2, Text: "d"}, impl.HeNone},
		{"of KyBack", some, impl.Box{Key: impl.BackKey(5, 9, 12), No: 2, Text: "d"}, impl.HeNone},
		{"no box", some, noBox, impl.HeNone},
		{"no key", some, impl.Box{No: 2, Text: "d"}, impl.HeNone},
		{"a wrong key", some, impl.Box{Key: impl.Key{Use: impl.KyForth, Secret: 5, Hello: 9}, No: 2, Text: "d"}, impl.HeNone},
		{"a wrong number", some, box(-1, "d"), impl.HeNone},
		{"past all numbers", some, box(1001, "d"), impl.HeNone},
		{"a text that is too long", some, box(2, strings.Repeat("d", 41)), impl.HeNone},
		{"no word of a guest: empty", some, box(2, ""), impl.HeWord},
		{"no word of a guest: in large letters", some, box(2, "HAY"), impl.HeWord},
		{"no word of a guest: 13 bytes", some, box(2, strings.Repeat("d", 13)), impl.HeWord},
		{"no word of a guest: 40 bytes", some, box(2, strings.Repeat("\xff", 40)), impl.HeWord},
		{"what reads as the end", some, box(2, "end2"), impl.HeWord},
		{"what reads as the end of none", seatOf(t, "K", 0, 1, nil), box(1, "end0"), impl.HeWord},
		{"room for one", seatOf(t, "E", 0, 40, manyWords(20, 39)), box(40, "y"), impl.HeWord},
		{"no room", seatOf(t, "E", 0, 41, manyWords(20, 40)), box(41, "z"), impl.HeNone},
		{"no room, what reads as the end", seatOf(t, "E", 0, 41, manyWords(20, 40)), box(41, "end60"), impl.HeNone},
		{"no room, PkToken", seatOf(t, "K", 0, 61, manyWords(0, 60)), box(61, "z"), impl.HeNone},
		{"the row is at its last number but one", seatOf(t, "E", 0, 999, nil), box(999, "d"), impl.HeWord},
		{"the row is at its most", seatOf(t, "E", 0, 1000, nil), box(1000, "d"), impl.HeNone},
		{"the row is at its beginning", seatOf(t, "E", 0, 0, nil), box(0, "d"), impl.HeWord},
	} {
		c.check(t)
	}
}

// seatBoxes are right and wrong boxes of both Rows, and such as differ from them in one thing.
func seatBoxes() []impl.Box {
	var list []impl.Box
	texts := []string{"", "a", "HAY", "end", "end0", "end1", "end2", "end3", "end02", "end59", "end60", "end61", strings.Repeat("z", 40), strings.Repeat("z", 41)}
	for _, k := range []impl.Key{
		impl.EarlyKey(5, 9), impl.EarlyKey(0, 9), impl.EarlyKey(6, 9), impl.EarlyKey(5, 10),
		impl.ForthKey(5, 9, 12), impl.ForthKey(0, 9, 12), impl.ForthKey(6, 9, 12), impl.ForthKey(5, 10, 12), impl.ForthKey(5, 9, 13),
		impl.HandKey(5, 9, 12), impl.BackKey(5, 9, 12), impl.BindKey(5, 9), impl.TokenKey(5), noKey, {Use: impl.KyForth, Secret: 5, Hello: 9},
	} {
		for _, no := range []int64{-1, 0, 1, 2, 3, 999, 1000, 1001} {
			for _, text := range texts {
				b := impl.Box{Key: k, No: no, Text: text}
				list = append(list, b, impl.Spoil(b))
			}
		}
	}
	return list
}

// TestHearsOfEach: each base with each of these Logs, its Rows at each of these numbers, right and wrong, and each box.
// No box is ever taken by both Rows of a right Seat, so it is of no matter which one is asked first.
func TestHearsOfEach(t *testing.T) {
	boxes := seatBoxes()
	heard := map[string]int{}
	for _, log := range [][]impl.Word{nil, wordsLike("a*"), wordsLike("a", "b*", "C"), manyWords(20, 39), manyWords(20, 40), manyWords(20, 41)} {
		for _, letter := range strings.Split(allSeats, "") {
			for _, early := range []int64{0, 2, 999, 1000, 1001} {
				for _, forth := range []int64{0, 2, 999, 1000, -1} {
					s := seatOf(t, letter, early, forth, log)
					for _, b := range boxes {
						_, code := checkHears(t, "of each", s, b)
						if code != impl.HeNone {
							heard[letter+fmt.Sprint(code)]++
						}
						_, _, one := impl.Take(s.Early, b)
						_, _, other := impl.Take(s.Forth, b)
						if one && other {
							t.Fatalf("%v and %v both take %v", s.Early, s.Forth, b)
						}
					}
				}
			}
		}
	}
	// Who waits hears the end, and of PkEarly early words, too; who is open hears words.
	for code, want := range map[string]bool{"f2": true, "k2": true, "e1": true, "e2": true, "F3": true, "K3": true, "E3": true} {
		if heard[code] > 0 != want {
			t.Errorf("%s: %d", code, heard[code])
		}
		delete(heard, code)
	}
	if len(heard) != 0 {
		t.Errorf("heard is %v, too", heard)
	}
}

// TestHearsOfEachText: whatever is in a box that opens, it is a Word, but where the end must come.
func TestHearsOfEachText(t *testing.T) {
	texts := slices.Concat(rightTexts, wrongTexts, boxTexts)
	for n := range 256 {
		texts = append(texts, string([]byte{byte(n)}), "end"+string([]byte{byte(n)}))
	}
	for _, b := range seatBases() {
		for _, text := range texts {
			for _, r := range []impl.Row{b.seat.Early, b.seat.Forth} {
				checkHears(t, "each text", b.seat, impl.Box{Key: r.Key, No: r.No, Text: text})
			}
		}
	}
}

// wrongSeats are made of each base, with and without a Log, by one thing that makes it wrong.
func wrongSeats(t *testing.T) []impl.Seat {
	t.Helper()
	var wrong []impl.Seat
	for _, b := range seatBases() {
		for _, log := range [][]impl.Word{nil, wordsLike("a*", "b"), manyWords(20, 40)} {
			for _, change := range []func(s *impl.Seat){
				func(s *impl.Seat) { *s = noSeat },
				func(s *impl.Seat) { *s = impl.Seat{Log: s.Log} },
				func(s *impl.Seat) { s.State = 0 },
				func(s *impl.Seat) { s.State = 3 },
				func(s *impl.Seat) { s.State = math.MaxInt64 },
				func(s *impl.Seat) { s.Hello = 0 },
				func(s *impl.Seat) { s.Hello = 10 },
				func(s *impl.Seat) { s.Draw = 0 },
				func(s *impl.Seat) { s.Draw = 13 },
				func(s *impl.Seat) { s.Pick = 0 },
				func(s *impl.Seat) { s.Pick = impl.PkAgain },
				func(s *impl.Seat) { s.Forth = noRow },
				func(s *impl.Seat) { s.Forth.No = -1 },
				func(s *impl.Seat) { s.Forth.No = 1001 },
				func(s *impl.Seat) { s.Forth.Key.Use = impl.KyHand },
				func(s *impl.Seat) { s.Forth.Key.Use = impl.KyBack },
				func(s *impl.Seat) { s.Forth.Key.Secret = 5 - s.Forth.Key.Secret },
				func(s *impl.Seat) { s.Forth.Key.Secret = 100001 },
				func(s *impl.Seat) { s.Early.No = 1001 },
				func(s *impl.Seat) { s.Early = impl.Row{Key: impl.EarlyKey(6, 9)} },
				// By these two rows one box could be taken by both.
				func(s *impl.Seat) { s.Early = s.Forth },
				func(s *impl.Seat) { s.Early = impl.Row{Key: impl.EarlyKey(5, 9)}; s.Forth = s.Early },
				func(s *impl.Seat) { s.Log = manyWords(20, 41) },
				func(s *impl.Seat) { s.Log = make([]impl.Word, 1000) },
			} {
				s := changedSeat(b.seat, func(s *impl.Seat) { s.Log = slices.Clone(log) })
				wrong = append(wrong, changedSeat(s, change))
			}
		}
	}
	if len(wrong) != 6*3*24 {
		t.Fatalf("%d are wrong", len(wrong))
	}
	return wrong
}

// TestHearsOfASeatThatIsNotRight: whatever is wrong with it, nothing is heard, and the zero Seat is answered.
func TestHearsOfASeatThatIsNotRight(t *testing.T) {
	boxes := seatBoxes()
	for _, s := range wrongSeats(t) {
		if checkSeatOk(t, "wrong", s) {
			t.Fatalf("%v is right", s)
		}
		own := []impl.Box{
			{Key: s.Early.Key, No: s.Early.No, Text: "c"}, {Key: s.Forth.Key, No: s.Forth.No, Text: "c"},
			{Key: s.Forth.Key, No: s.Forth.No, Text: fmt.Sprintf("end%d", len(s.Log))},
		}
		for _, b := range append(own, boxes...) {
			if got, heard := impl.Hears(s, b); heard != impl.HeNone || !sameSeat(got, noSeat) {
				t.Fatalf("Hears(%v, %v) = %v, %d", s, b, got, heard)
			}
		}
	}
}

func TestLogOfAndEarlyIn(t *testing.T) {
	for _, c := range []struct {
		name  string
		log   []impl.Word
		texts []string
		early int64
	}{
		{"nothing", nil, nil, 0},
		{"an empty one", []impl.Word{}, nil, 0},
		{"one early one", wordsLike("a*"), []string{"a"}, 1},
		{"one other one", wordsLike("a"), []string{"a"}, 0},
		{"early ones alone", wordsLike("b*", "a*"), []string{"b", "a"}, 2},
		{"others alone", wordsLike("d", "c", "e"), []string{"d", "c", "e"}, 0},
		{"both", wordsLike("z*", "y*", "b", "a"), []string{"z", "y", "b", "a"}, 2},
		{"both, early ones behind", wordsLike("z", "y*", "b", "a*"), []string{"z", "y", "b", "a"}, 2},
		{"the same in both", wordsLike("a*", "a", "a*", "a"), []string{"a", "a", "a", "a"}, 2},
		{"the zero Word", []impl.Word{{}}, []string{""}, 0},
		{"empty texts", wordsLike("*", "", "a", "*"), []string{"", "", "a", ""}, 2},
		{"what is no text", wordsLike("A b", "\xff*", strings.Repeat("z", 41)), []string{"A b", "\xff", strings.Repeat("z", 41)}, 1},
		{"the most", manyWords(20, 40), numbered(60), 20},
		{"the most, all early", manyWords(60, 0), numbered(60), 60},
		{"the most, none early", manyWords(0, 60), numbered(60), 0},
		// No answer is named for a Seat that is not right: it has its Words as well.
		{"one too many", manyWords(21, 40), numbered(61), 21},
		{"many", manyWords(300, 700), numbered(1000), 300},
	} {
		seats := []impl.Seat{{Log: c.log}, {State: 3, Pick: 4, Log: c.log}}
		for _, b := range seatBases() {
			seats = append(seats, changedSeat(b.seat, func(s *impl.Seat) { s.Log = c.log }))
		}
		for _, s := range seats {
			if got := impl.LogOf(s); !slices.Equal(got, c.texts) {
				t.Errorf("%s: LogOf(%v) = %q", c.name, s, got)
			}
			if got := impl.EarlyIn(s); got != c.early {
				t.Errorf("%s: EarlyIn(%v) = %d", c.name, s, got)
			}
			checkLog(t, c.name+", the model", s)
		}
	}
	for _, s := range wrongSeats(t) {
		checkLog(t, "wrong", s)
	}
}

// seatTalk is a Guest that had its answer, the Seat of it, and the boxes that it sent ahead of the answer and behind it.
type seatTalk struct {
	guest         impl.Guest
	seat          impl.Seat
	ahead, behind []impl.Box
}

// talkOf has a Guest of draw 9 say these words, and an inn answer it by draw 12.
func talkOf(t *testing.T, pick int64, early, words []string, most int64) seatTalk {
	t.Helper()
	secret := int64(5)
	if pick == impl.PkFull {
		secret = 0
	}
	g := asksWith(t, early, most, 0)
	for _, s := range words {
		g, _ = impl.Say(g, s)
	}
	said := impl.AllOf(g)
	g, ahead := impl.SendEarly(g)
	g, _, is := impl.Hear(g, mustAnswer(t, 9, 12, pick, secret), 91)
	g, behind := impl.Send(g)
	if !is || !slices.Equal(said, slices.Concat(early, words)) || !slices.Equal(impl.AllOf(g), said) {
		t.Fatalf("%v, of pick %d, said %q", g, pick, said)
	}
	return seatTalk{guest: g, seat: mustSeat(t, 9, 12, pick, secret), ahead: ahead, behind: behind}
}

// inOrder are the boxes that the Seat must hear, one after the other, and what each of them is.
func (k seatTalk) inOrder() ([]impl.Box, []int64) {
	var boxes []impl.Box
	var codes []int64
	if k.seat.Pick == impl.PkEarly {
		boxes = append(boxes, k.ahead...)
		codes = slices.Repeat([]int64{impl.HeEarly}, len(k.ahead))
	}
	for i := range k.behind {
		codes = append(codes, impl.HeEnd)
		if i > 0 {
			codes[len(codes)-1] = impl.HeWord
		}
	}
	return append(boxes, k.behind...), codes
}

// onTheWay are all its boxes, spoilt ones, and such as another greeting, or another answer to this one, has there.
func (k seatTalk) onTheWay() []impl.Box {
	way := slices.Concat(k.ahead, k.behind)
	for _, b := range slices.Clone(way) {
		other := b
		if b.Key.Use == impl.KyForth {
			other.Key.Answer = 13
		} else {
			other.Key.Hello = 10
		}
		way = append(way, impl.Spoil(b), other)
	}
	return append(way, noBox)
}

// hearInOrder has the Seat hear all there is in order, and tries each box on the way ahead of each one: none else may be heard.
func (k seatTalk) hearInOrder(t *testing.T) impl.Seat {
	t.Helper()
	boxes, codes := k.inOrder()
	s, said := k.seat, impl.AllOf(k.guest)
	for i := 0; ; i++ {
		if !impl.Begins(impl.LogOf(s), said) {
			t.Fatalf("the log is %q, where %q was said", impl.LogOf(s), said)
		}
		for _, b := range k.onTheWay() {
			next, code := impl.Hears(s, b)
			if (code != impl.HeNone) != (i < len(boxes) && b == boxes[i]) || code == impl.HeNone && !sameSeat(next, s) {
				t.Fatalf("behind %d of %v: Hears(%v, %v) = %v, %d", i, boxes, s, b, next, code)
			}
		}
		if i == len(boxes) {
			return s
		}
		before := impl.LogOf(s)
		next, code := checkHears(t, "in order", s, boxes[i])
		after := impl.LogOf(next)
		if code != codes[i] || !impl.Begins(before, after) || code == impl.HeEnd && len(after) != len(before) || code != impl.HeEnd && len(after) != len(before)+1 {
			t.Fatalf("box %d of %v: Hears(%v) = %v, %d", i, boxes, s, next, code)
		}
		s = next
	}
}

// TestASeatHearsAWholeTalk: early words, then the end, then all others; at each place none but the next box is heard, and behind them all is.
func TestASeatHearsAWholeTalk(t *testing.T) {
	for _, pick := range finPicks {
		for _, said := range [][2]int{{0, 0}, {1, 0}, {0, 1}, {1, 1}, {2, 2}, {3, 2}, {5, 0}, {20, 0}, {0, 20}, {20, 20}} {
			early, words := numbered(20)[:said[0]], numbered(40)[20:20+said[1]]
			for _, most := range []int64{0, 1, 2, 3, 4, 6, 8, 20, 100} {
				k := talkOf(t, pick, early, words, most)
				s := k.hearInOrder(t)
				ahead := int64(0)
				if pick == impl.PkEarly {
					ahead = impl.Upto(early, most)
				}
				if s.State != impl.SeOpen || !slices.Equal(impl.LogOf(s), impl.AllOf(k.guest)) || impl.EarlyIn(s) != ahead || s.Early != noRow {
					t.Fatalf("of %v, of Most %d: %v", k.guest, most, s)
				}
			}
		}
	}
}

// TestASeatHearsNothingBeyondAGap: where one box is lost nothing behind it is heard, and what was heard ahead of it stays heard;
// where it comes late after all, the rest may be heard behind it.
func TestASeatHearsNothingBeyondAGap(t *testing.T) {
	for _, pick := range finPicks {
		for most := range int64(9) {
			k := talkOf(t, pick, []string{"ab", "cd", "ef"}, []string{"gh", "ij"}, most)
			boxes, codes := k.inOrder()
			for lost := range boxes {
				s := k.seat
				for i, b := range boxes {
					if i == lost {
						continue
					}
					next, code := checkHears(t, "around a gap", s, b)
					if i < lost && code != codes[i] || i > lost && (code != impl.HeNone || !sameSeat(next, s)) {
						t.Fatalf("without box %d, box %d of %v: %v, %d", lost, i, boxes, next, code)
					}
					s = next
				}
				for i := range boxes {
					next, code := checkHears(t, "behind a gap", s, boxes[i])
					if i < lost && code != impl.HeNone || i >= lost && code != codes[i] {
						t.Fatalf("behind box %d, box %d of %v: %v, %d", lost, i, boxes, next, code)
					}
					s = next
				}
				if !slices.Equal(impl.LogOf(s), impl.AllOf(k.guest)) {
					t.Fatalf("in the end the log is %q", impl.LogOf(s))
				}
			}
		}
	}
}

// TestTheOrderOfWhatIsHeard tries all orders in which up to 6 boxes may come, and up to 4 boxes twice each, and keeps a list of its own of what was heard.
func TestTheOrderOfWhatIsHeard(t *testing.T) {
	orders := 0
	var walk func(s impl.Seat, said []string, left []impl.Box, codes []int64, heard []impl.Box)
	walk = func(s impl.Seat, said []string, left []impl.Box, codes []int64, heard []impl.Box) {
		if !slices.IsSorted(codes) || !impl.Begins(impl.LogOf(s), said) {
			t.Fatalf("%v, codes %d, where %q was said", s, codes, said)
		}
		ends, early := 0, int64(0)
		for _, code := range codes {
			if code == impl.HeEnd {
				ends++
			} else if code == impl.HeEarly {
				early++
			}
		}
		if ends > 1 || early != impl.EarlyIn(s) || len(codes)-ends != len(impl.LogOf(s)) || (ends == 1) != (s.State == impl.SeOpen) {
			t.Fatalf("%v, codes %d", s, codes)
		}
		if len(left) == 0 {
			orders++
		}
		for i, b := range left {
			next, code := impl.Hears(s, b)
			again, twice := impl.Hears(next, b)
			if twice != impl.HeNone || !sameSeat(again, next) || code != impl.HeNone && slices.Contains(heard, b) {
				t.Fatalf("%v is heard twice, by %v", b, s)
			}
			rest := slices.Delete(slices.Clone(left), i, i+1)
			if code == impl.HeNone {
				walk(next, said, rest, codes, heard)
				continue
			}
			walk(next, said, rest, append(slices.Clone(codes), code), append(slices.Clone(heard), b))
		}
	}
	for _, pick := range finPicks {
		for most := range int64(4) {
			k := talkOf(t, pick, []string{"a", "b"}, []string{"c"}, most)
			way, said := slices.Concat(k.ahead, k.behind), impl.AllOf(k.guest)
			walk(k.seat, said, way, nil, nil)
			if len(way) <= 4 {
				walk(k.seat, said, slices.Concat(way, way), nil, nil)
			}
		}
	}
	// Of PkEarly there are 4 boxes, whatever went ahead; of the other two picks 4 behind the answer, and those ahead besides.
	if want := 4*(24+40320) + 2*(24+40320+120+720+720); orders != want {
		t.Fatalf("%d orders, not %d", orders, want)
	}
}

// TestSeatsOnALongWay has many Guests say words as they go, and their boxes lost, doubled, spoilt and late on the way to two Seats.
func TestSeatsOnALongWay(t *testing.T) {
	state, heard := int64(7), map[int64]int{}
	chance := func(n int64) int64 {
		state = (state*1103515245 + 12345) % (1 << 31)
		return state / 65536 % n
	}
	for range 600 {
		pick := finPicks[chance(3)]
		k := talkOf(t, pick, numbered(int(chance(21))), nil, chance(101))
		guest, own := k.guest, k.seat
		// The same greeting, heard by another house, which answered by another draw.
		other := mustSeat(t, 9, 13, impl.PkEarly, 5)
		way := slices.Concat(k.ahead, k.behind)
		sent := slices.Clone(way)
		step := func(b impl.Box) {
			for i, s := range []*impl.Seat{&own, &other} {
				before := impl.LogOf(*s)
				next, code := checkHears(t, "on a long way", *s, b)
				if !impl.Begins(before, impl.LogOf(next)) || !impl.Begins(impl.LogOf(next), impl.AllOf(guest)) {
					t.Fatalf("%v becomes %v by %v", *s, next, b)
				}
				if i == 1 && (code > impl.HeEarly || impl.EarlyIn(next) != int64(len(next.Log))) {
					t.Fatalf("the other house hears more than early words: %v", next)
				}
				heard[code]++
				*s = next
			}
		}
		for range 100 {
			if chance(8) == 0 {
				next, _ := impl.Say(guest, strings.Repeat(string(rune('a'+chance(3))), int(1+chance(12))))
				next, boxes := impl.Send(next)
				guest, way, sent = next, append(way, boxes...), append(sent, boxes...)
			}
			if len(way) == 0 {
				continue
			}
			// Most boxes come in order, so that there is much to hear; some come ahead of others.
			at := 0
			if chance(4) == 0 {
				at = int(chance(int64(len(way))))
			}
			b := way[at]
			switch chance(12) {
			case 0:
				way = slices.Delete(way, at, at+1)
				continue
			case 1:
				b = impl.Spoil(b)
			case 2:
				way = append(way, b)
			}
			way = slices.Delete(way, at, at+1)
			step(b)
		}
		// In the end whoever stands on the way sends all of it once more, in order.
		for _, b := range sent {
			step(b)
		}
		if !slices.Equal(impl.LogOf(own), impl.AllOf(guest)) || own.State != impl.SeOpen {
			t.Fatalf("%v, where %q was said", own, impl.AllOf(guest))
		}
		if other.State != impl.SeWaits || len(other.Log) != len(k.ahead) {
			t.Fatalf("the other house heard %v of %v", other, k.ahead)
		}
	}
	for code := range int64(4) {
		if heard[code] < 500 {
			t.Fatalf("heard is %v", heard)
		}
	}
}

// TestTheRowsOfBothEnds: where the Guest heard the Answer its Row is that of the Seat, and the one for early words, too.
func TestTheRowsOfBothEnds(t *testing.T) {
	for _, pick := range finPicks {
		k := talkOf(t, pick, []string{"a"}, nil, 0)
		asks := asksWith(t, []string{"a"}, 0, 0)
		if k.seat.Forth.Key != k.guest.Row.Key || k.seat.Forth.No != 0 {
			t.Errorf("of pick %d: %v and %v", pick, k.seat.Forth, k.guest.Row)
		}
		if pick == impl.PkEarly && k.seat.Early != asks.Row || pick != impl.PkEarly && k.seat.Early != noRow {
			t.Errorf("of pick %d: %v and %v", pick, k.seat.Early, asks.Row)
		}
	}
}

// TestASeatFillsUp: a Log takes as many as there is room for, early or not, and no more; what does not go in does not move its Row.
func TestASeatFillsUp(t *testing.T) {
	for early := range int64(62) {
		s := mustSeat(t, 9, 12, impl.PkEarly, 5)
		_, ahead := impl.PutAll(s.Early, slices.Repeat([]string{"a"}, int(early)))
		for i, b := range ahead {
			next, code := checkHears(t, "fills up", s, b)
			if (code == impl.HeEarly) != (i < 60) {
				t.Fatalf("early word %d is %d", i, code)
			}
			s = next
		}
		_, behind := impl.PutAll(s.Forth, append([]string{fmt.Sprintf("end%d", min(early, 60))}, slices.Repeat([]string{"b"}, 70)...))
		for i, b := range behind {
			next, code := checkHears(t, "fills up", s, b)
			want := int64(impl.HeNone)
			if i == 0 {
				want = impl.HeEnd
			} else if early+int64(i) <= 60 {
				want = impl.HeWord
			}
			if code != want {
				t.Fatalf("behind %d early ones box %d is %d", early, i, code)
			}
			s = next
		}
		if len(s.Log) != 60 || s.Forth.No != 61-min(early, 60) || impl.EarlyIn(s) != min(early, 60) {
			t.Fatalf("behind %d early ones: %v", early, s)
		}
	}
}

// seatLists are all Logs of all answers that may come of a Seat, and all lists of texts.
func seatLists(s impl.Seat) ([][]impl.Word, [][]string) {
	var logs [][]impl.Word
	for _, b := range []impl.Box{
		{Key: s.Early.Key, No: s.Early.No, Text: "x"},
		{Key: s.Forth.Key, No: s.Forth.No, Text: "x"},
		{Key: s.Forth.Key, No: s.Forth.No, Text: fmt.Sprintf("end%d", len(s.Log))},
		{Key: s.Forth.Key, No: s.Forth.No, Text: "y", Spoilt: true},
		noBox,
	} {
		next, _ := impl.Hears(s, b)
		logs = append(logs, next.Log)
	}
	return logs, [][]string{impl.LogOf(s), impl.LogOf(s)}
}

var logSizes = []int{0, 1, 2, 3, 7, 58, 59, 60, 61}

// oneLog are the bases, and wrong ones, whose Logs lie in one row of memory, with spare room behind them.
func oneLog(t *testing.T, size int) ([]impl.Seat, []impl.Word) {
	t.Helper()
	room := manyWords(size/2, size-size/2+5)
	var seats []impl.Seat
	for _, b := range seatBases() {
		seats = append(seats, b.seat, changedSeat(b.seat, func(s *impl.Seat) { s.State = 3 }))
	}
	for i := range seats {
		seats[i].Log = room[:size]
	}
	return seats, room
}

func TestSeatArgumentsStay(t *testing.T) {
	for _, size := range logSizes {
		seats, room := oneLog(t, size)
		given := slices.Clone(room)
		for _, s := range seats {
			kept := cloneSeat(s)
			logs, texts := seatLists(s)
			for _, list := range logs {
				overwrite(list, impl.Word{Text: "overwritten", Early: true})
			}
			for _, list := range texts {
				overwrite(list, "overwritten")
			}
			impl.SeatOk(s)
			impl.EarlyIn(s)
			if !slices.Equal(room, given) || !sameSeat(s, kept) {
				t.Fatalf("of %v now %v, in all %v", kept, s, room)
			}
		}
	}
}

// TestSeatAnswersAreNew: a list stays as it was answered, whatever is done to all other ones and to the argument.
func TestSeatAnswersAreNew(t *testing.T) {
	for _, size := range logSizes {
		seats, _ := oneLog(t, size)
		for i, s := range seats {
			wantLogs, wantTexts := seatLists(s)
			for kept := range wantLogs {
				again, room := oneLog(t, size)
				logs, _ := seatLists(again[i])
				for other, list := range logs {
					if other != kept {
						overwrite(list, impl.Word{Text: "overwritten"})
					}
				}
				overwrite(room, impl.Word{Text: "overwritten"})
				if !slices.Equal(logs[kept], wantLogs[kept]) {
					t.Fatalf("of %v, log %d: now %v, not %v", s, kept, logs[kept], wantLogs[kept])
				}
			}
			again, room := oneLog(t, size)
			_, texts := seatLists(again[i])
			overwrite(texts[1], "overwritten")
			overwrite(room, impl.Word{Text: "overwritten"})
			if !slices.Equal(texts[0], wantTexts[0]) {
				t.Fatalf("of %v: now %q, not %q", s, texts[0], wantTexts[0])
			}
		}
	}
}

// TestSeatsOfOneSeat: of two that were made of one Seat none knows what the other one heard.
func TestSeatsOfOneSeat(t *testing.T) {
	for early := range int64(20) {
		s := mustSeat(t, 9, 12, impl.PkEarly, 5)
		_, ahead := impl.PutAll(s.Early, numbered(int(early)))
		for _, b := range ahead {
			s, _ = impl.Hears(s, b)
		}
		one, _ := impl.Hears(s, impl.Box{Key: impl.EarlyKey(5, 9), No: early, Text: "one"})
		other, _ := impl.Hears(s, impl.Box{Key: impl.EarlyKey(5, 9), No: early, Text: "other"})
		open, _ := impl.Hears(s, impl.Box{Key: impl.ForthKey(5, 9, 12), Text: fmt.Sprintf("end%d", early)})
		word, _ := impl.Hears(open, impl.Box{Key: impl.ForthKey(5, 9, 12), No: 1, Text: "word"})
		last, _ := impl.Hears(open, impl.Box{Key: impl.ForthKey(5, 9, 12), No: 1, Text: "last"})
		for _, c := range []struct {
			seat impl.Seat
			want []string
		}{
			{s, nil}, {one, []string{"one"}}, {other, []string{"other"}}, {open, nil}, {word, []string{"word"}}, {last, []string{"last"}},
		} {
			if got := impl.LogOf(c.seat); !slices.Equal(got, append(numbered(int(early)), c.want...)) {
				t.Fatalf("behind %d: LogOf(%v) = %q", early, c.seat, got)
			}
		}
	}
}

// changesToSeat makes each number of a Seat n, one at a time, and last all of them.
func changesToSeat(n int64) []func(s *impl.Seat) {
	return []func(s *impl.Seat){
		func(s *impl.Seat) { s.State = n },
		func(s *impl.Seat) { s.Hello = n },
		func(s *impl.Seat) { s.Draw = n },
		func(s *impl.Seat) { s.Pick = n },
		func(s *impl.Seat) { s.Early.No = n },
		func(s *impl.Seat) { s.Early.Key.Use = n },
		func(s *impl.Seat) { s.Early.Key.Secret = n },
		func(s *impl.Seat) { s.Early.Key.Hello = n },
		func(s *impl.Seat) { s.Early.Key.Answer = n },
		func(s *impl.Seat) { s.Forth.No = n },
		func(s *impl.Seat) { s.Forth.Key.Use = n },
		func(s *impl.Seat) { s.Forth.Key.Secret = n },
		func(s *impl.Seat) { s.Forth.Key.Hello = n },
		func(s *impl.Seat) { s.Forth.Key.Answer = n },
		func(s *impl.Seat) {
			s.State, s.Hello, s.Draw, s.Pick = n, n, n, n
			s.Early = impl.Row{Key: impl.Key{Use: n, Secret: n, Hello: n, Answer: n}, No: n}
			s.Forth = s.Early
		},
	}
}

// changesToBox makes each number of a Box n, one at a time, and last all of them.
func changesToBox(b impl.Box, n int64) []impl.Box {
	use, secret, hello, answer, no := b, b, b, b, b
	use.Key.Use, secret.Key.Secret, hello.Key.Hello, answer.Key.Answer, no.No = n, n, n, n, n
	all := impl.Box{Key: impl.Key{Use: n, Secret: n, Hello: n, Answer: n}, No: n, Text: b.Text}
	return []impl.Box{use, secret, hello, answer, no, all}
}

// TestSeatsAtEachNumber: each number of a Seat and of a Box is each of these once, right or wrong, and nothing panics.
func TestSeatsAtEachNumber(t *testing.T) {
	for _, base := range seatBases() {
		boxes := []impl.Box{
			{Key: impl.EarlyKey(5, 9), No: base.seat.Early.No, Text: "x"},
			{Key: base.seat.Forth.Key, No: base.seat.Forth.No, Text: "x"},
			{Key: base.seat.Forth.Key, No: base.seat.Forth.No, Text: fmt.Sprintf("end%d", len(base.seat.Log))},
		}
		for _, n := range guestNumbers {
			for _, change := range changesToSeat(n) {
				for _, s := range []impl.Seat{changedSeat(base.seat, change), changedSeat(base.seat, fitSeat(change))} {
					checkSeatOk(t, "each number", s)
					checkLog(t, "each number", s)
					for _, b := range boxes {
						checkHears(t, "each number", s, b)
					}
				}
			}
			for _, own := range boxes {
				for _, b := range changesToBox(own, n) {
					checkHears(t, "each number of a box", base.seat, b)
				}
			}
			for _, m := range guestNumbers {
				checkNewSeat(t, "each number", n, m, base.seat.Pick, base.seat.Forth.Key.Secret)
				checkNewSeat(t, "each number", 9, n, base.seat.Pick, m)
				checkNewSeat(t, "each number", m, 12, n, base.seat.Forth.Key.Secret)
			}
		}
	}
}

// TestSeatAnswersDoNotHangOnCallsAhead: what another Seat heard ahead of a call is of no matter.
func TestSeatAnswersDoNotHangOnCallsAhead(t *testing.T) {
	boxes := seatBoxes()
	for range 3 {
		for _, base := range seatBases() {
			for _, b := range boxes {
				checkHears(t, "behind another one", base.seat, b)
			}
			checkSeatOk(t, "behind another one", base.seat)
			checkLog(t, "behind another one", base.seat)
		}
		checkHears(t, "the zero Seat", noSeat, noBox)
		checkNewSeat(t, "behind another one", 9, 12, impl.PkEarly, 5)
	}
}
