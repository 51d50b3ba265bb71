package tests

import (
	"fmt"
	"maps"
	"math"
	"slices"
	"testing"

	"loop.example/g00558/impl"
)

var noWorld = impl.World{}

// letterIsRight and worldIsRight go through chapter 16, sentence by sentence.
func letterIsRight(w impl.World, l impl.Letter) bool {
	if l.Guest < 0 || l.Guest >= int64(len(w.Guests)) {
		return false
	}
	switch l.Kind {
	case 1:
		return helloIsRight(l.Hello) && l.Box == noBox && l.Answer == noAnswer
	case 2:
		return boxIsRight(l.Box.Key, l.Box.No, l.Box.Text) && l.Hello == noHello && l.Answer == noAnswer
	case 3:
		return answerIsRight(l.Answer) && l.Hello == noHello && l.Box == noBox
	}
	return false
}

func worldIsRight(w impl.World) bool {
	for _, n := range w.Inns {
		if !houseIsRight(n) {
			return false
		}
	}
	for _, g := range w.Guests {
		if !guestIsRight(g) || g.Draw > w.Last {
			return false
		}
	}
	for _, l := range w.Way {
		if !letterIsRight(w, l) {
			return false
		}
	}
	return isDraw(w.Secret) && timeIsRight(w.Now) && w.Last >= 0 && w.Last <= 100000 && len(w.Inns) >= 1 && len(w.Inns) <= 3 &&
		len(w.Guests) <= 6 && purseIsRight(w.Purse) && len(w.Way) <= 60
}

func sameWorld(a, b impl.World) bool {
	return a.Secret == b.Secret && a.Now == b.Now && a.Last == b.Last && slices.EqualFunc(a.Inns, b.Inns, sameInn) &&
		slices.EqualFunc(a.Guests, b.Guests, sameGuest) && slices.Equal(a.Purse, b.Purse) && slices.Equal(a.Way, b.Way)
}

func cloneWorld(w impl.World) impl.World {
	w.Inns, w.Guests = slices.Clone(w.Inns), slices.Clone(w.Guests)
	w.Purse, w.Way = slices.Clone(w.Purse), slices.Clone(w.Way)
	for i, n := range w.Inns {
		w.Inns[i] = cloneInn(n)
	}
	for i, g := range w.Guests {
		w.Guests[i] = cloneGuest(g)
	}
	return w
}

func changedWorld(w impl.World, change func(w *impl.World)) impl.World {
	w = cloneWorld(w)
	change(&w)
	return w
}

// The models go through chapter 16, sentence by sentence.

func wantNewWorld(houses int64) (impl.World, bool) {
	if houses < 1 || houses > 3 {
		return noWorld, false
	}
	return impl.World{Secret: 1, Last: 1, Inns: make([]impl.Inn, houses)}, true
}

func wantInvited(w impl.World) (impl.World, bool) {
	if !worldIsRight(w) {
		return noWorld, false
	}
	if len(w.Guests) == 6 || w.Last == 100000 {
		return w, false
	}
	return changedWorld(w, func(w *impl.World) {
		w.Last++
		w.Guests = append(w.Guests, impl.Guest{Draw: w.Last})
	}), true
}

func wantTokened(w impl.World, life, most int64) (impl.World, bool) {
	if !worldIsRight(w) {
		return noWorld, false
	}
	k, made := wantToken(w.Secret, w.Last+1, w.Now, life, most)
	purse, kept := wantKept(w.Purse, k)
	if !made || !kept {
		return w, false
	}
	return changedWorld(w, func(w *impl.World) {
		w.Last++
		w.Purse = purse
	}), true
}

func wantLetters(w impl.World) int64 {
	if !worldIsRight(w) {
		return -1
	}
	return int64(len(w.Way))
}

func checkWorldOk(t *testing.T, name string, w impl.World) bool {
	t.Helper()
	want := worldIsRight(w)
	if got := impl.WorldOk(w); got != want {
		t.Fatalf("%s: WorldOk(%v) = %v", name, w, got)
	}
	return want
}

// checkWorld wants the World that the model wants, and of a right one none but a right one.
func checkWorld(t *testing.T, name string, given, got, want impl.World, is, right bool) {
	t.Helper()
	if !sameWorld(got, want) || is != right {
		t.Fatalf("%s: of %v: %v, %v, not %v, %v", name, given, got, is, want, right)
	}
	if worldIsRight(given) && !impl.WorldOk(got) {
		t.Fatalf("%s: of %v: %v, which is not right", name, given, got)
	}
}

func checkInvited(t *testing.T, name string, w impl.World) (impl.World, bool) {
	t.Helper()
	want, right := wantInvited(w)
	got, is := impl.Invited(w)
	checkWorld(t, name+", Invited", w, got, want, is, right)
	return got, is
}

func checkTokened(t *testing.T, name string, w impl.World, life, most int64) (impl.World, bool) {
	t.Helper()
	want, right := wantTokened(w, life, most)
	got, is := impl.Tokened(w, life, most)
	checkWorld(t, fmt.Sprintf("%s, Tokened(%d, %d)", name, life, most), w, got, want, is, right)
	return got, is
}

func checkLetters(t *testing.T, name string, w impl.World) {
	t.Helper()
	if got, want := impl.Letters(w), wantLetters(w); got != want {
		t.Fatalf("%s: Letters(%v) = %d, not %d", name, w, got, want)
	}
}

// checkOfWorld asks all that may be asked of a World.
func checkOfWorld(t *testing.T, name string, w impl.World) bool {
	t.Helper()
	checkInvited(t, name, w)
	checkTokened(t, name, w, 100, 20)
	checkTokened(t, name, w, 0, 20)
	checkLetters(t, name, w)
	return checkWorldOk(t, name, w)
}

func mustWorld(t *testing.T, houses int64) impl.World {
	t.Helper()
	w, is := impl.NewWorld(houses)
	if !is {
		t.Fatalf("no world of %d houses", houses)
	}
	return w
}

// guestsAt are so many right Guests of all States, of draws from 2 on, with so many Early and so many Words.
func guestsAt(t *testing.T, count, early, words int) []impl.Guest {
	t.Helper()
	var list []impl.Guest
	bases := guestsLike(t, early, words)
	for i := range count {
		// By 5 on of 16 others, as the ones that are beside each other are like each other.
		list = append(list, changedGuest(bases[i*5%len(bases)], fit(func(g *impl.Guest) { g.Draw = int64(2 + i) })))
	}
	return list
}

// lettersLike are so many right Letters of each Kind in turn, no two alike, of so many Guests.
func lettersLike(t *testing.T, count, guests int) []impl.Letter {
	t.Helper()
	var list []impl.Letter
	k := mustToken(t, 1, 5, 70, 100, 20)
	for i := range int64(count) {
		l := impl.Letter{Guest: i / 3 % int64(guests)}
		switch i % 3 {
		case 0:
			l.Kind, l.Hello = impl.LtHello, mustGreetWith(t, 20+i, i%2 == 0, k, false, 90)
		case 1:
			l.Kind, l.Box = impl.LtBox, mustLock(t, impl.EarlyKey(5, 20+i), i, "a")
		case 2:
			l.Kind, l.Answer = impl.LtAnswer, mustAnswer(t, 20+i, 90, impl.PkToken, 5)
		}
		list = append(list, l)
	}
	return list
}

// worldLike is a right World with so many of each.
func worldLike(t *testing.T, houses, guests, tokens, letters int) impl.World {
	t.Helper()
	w := impl.World{Secret: 1, Now: 90, Last: 50}
	for i := range houses {
		w.Inns = append(w.Inns, impl.Inn{Memory: impl.Memory{Seen: drawsFrom(90, 2+i), Since: int64(i)}, Seats: seatsLike(3 + i)})
	}
	w.Guests = guestsAt(t, guests, 3, 2)
	w.Purse = tokensFrom(t, 11, tokens)
	w.Way = lettersLike(t, letters, max(guests, 1))
	return w
}

// fullWorld has as many of each as there may be.
func fullWorld(t *testing.T) impl.World {
	t.Helper()
	return worldLike(t, 3, 6, 6, 60)
}

// worldBases are right Worlds, new ones, full ones, and ones between.
func worldBases(t *testing.T) []impl.World {
	t.Helper()
	return []impl.World{
		mustWorld(t, 1), mustWorld(t, 2), mustWorld(t, 3),
		worldLike(t, 1, 0, 0, 0), worldLike(t, 1, 1, 1, 1), worldLike(t, 2, 3, 2, 7), worldLike(t, 2, 5, 5, 59),
		worldLike(t, 3, 6, 5, 60), worldLike(t, 3, 5, 6, 60), fullWorld(t),
	}
}

func TestWorldConstants(t *testing.T) {
	got := []int64{impl.LtHello, impl.LtBox, impl.LtAnswer, impl.MaxGuests, impl.MaxWay}
	if want := []int64{1, 2, 3, 6, 60}; !slices.Equal(got, want) {
		t.Fatalf("%d", got)
	}
}

func TestWorldOkOfBases(t *testing.T) {
	for i, w := range worldBases(t) {
		if !checkOfWorld(t, "base", w) {
			t.Errorf("base %d: %v is not right", i, w)
		}
	}
	if checkOfWorld(t, "the zero World", noWorld) {
		t.Error("the zero World is right")
	}
}

// worldChange makes one thing of a right World another one.
type worldChange struct {
	name   string
	want   bool
	change func(w *impl.World)
}

// checkWorldChanges makes each change of a full World, and of one that has few of each.
func checkWorldChanges(t *testing.T, changes []worldChange) {
	t.Helper()
	for _, c := range changes {
		for _, base := range []impl.World{fullWorld(t), worldLike(t, 1, 2, 1, 3)} {
			w := changedWorld(base, c.change)
			if got := impl.WorldOk(w); got != c.want {
				t.Errorf("%s: WorldOk(%v) = %v", c.name, w, got)
			}
			if worldIsRight(w) != c.want {
				t.Errorf("%s: the model", c.name)
			}
			checkOfWorld(t, c.name, w)
		}
	}
}

func TestWorldOkByNumbers(t *testing.T) {
	checkWorldChanges(t, []worldChange{
		{"nothing", true, func(w *impl.World) {}},
		{"Secret below 0", false, func(w *impl.World) { w.Secret = -1 }},
		{"Secret 0", false, func(w *impl.World) { w.Secret = 0 }},
		{"Secret 1", true, func(w *impl.World) { w.Secret = 1 }},
		{"Secret 2", true, func(w *impl.World) { w.Secret = 2 }},
		{"Secret past Last", true, func(w *impl.World) { w.Secret = 99 }},
		{"Secret MaxDraw", true, func(w *impl.World) { w.Secret = 100000 }},
		{"Secret past MaxDraw", false, func(w *impl.World) { w.Secret = 100001 }},
		{"Secret the least int64", false, func(w *impl.World) { w.Secret = math.MinInt64 }},
		{"Secret the largest int64", false, func(w *impl.World) { w.Secret = math.MaxInt64 }},
		{"Secret 1 in 32 bits", false, func(w *impl.World) { w.Secret = 1<<32 + 1 }},
		{"Now below 0", false, func(w *impl.World) { w.Now = -1 }},
		{"Now 0", true, func(w *impl.World) { w.Now = 0 }},
		{"Now 1", true, func(w *impl.World) { w.Now = 1 }},
		{"Now MaxTime", true, func(w *impl.World) { w.Now = 100000 }},
		{"Now past MaxTime", false, func(w *impl.World) { w.Now = 100001 }},
		{"Now the least int64", false, func(w *impl.World) { w.Now = math.MinInt64 }},
		{"Now the largest int64", false, func(w *impl.World) { w.Now = math.MaxInt64 }},
		{"Last below 0", false, func(w *impl.World) { w.Last, w.Guests, w.Way = -1, nil, nil }},
		{"Last 0", true, func(w *impl.World) { w.Last, w.Guests, w.Way = 0, nil, nil }},
		{"Last 1", true, func(w *impl.World) { w.Last, w.Guests, w.Way = 1, nil, nil }},
		{"Last MaxDraw", true, func(w *impl.World) { w.Last = 100000 }},
		{"Last past MaxDraw", false, func(w *impl.World) { w.Last = 100001 }},
		{"Last the least int64", false, func(w *impl.World) { w.Last, w.Guests, w.Way = math.MinInt64, nil, nil }},
		{"Last the largest int64", false, func(w *impl.World) { w.Last = math.MaxInt64 }},
		{"Last 50 in 32 bits", false, func(w *impl.World) { w.Last = 1<<32 + 50 }},
		{"Last 0, of a token of a later Secret", true, func(w *impl.World) { w.Last, w.Guests, w.Way, w.Purse = 0, nil, nil, tokensFrom(t, 99999, 2) }},
		{"no number right", false, func(w *impl.World) { w.Secret, w.Now, w.Last = 0, -1, -1 }},
	})
}

func TestWorldOkByInns(t *testing.T) {
	houses := func(count int) []impl.Inn { return innsLike(impl.Memory{Seen: []int64{7}, Since: 20})[:count] }
	with := func(count, at int, n impl.Inn) func(w *impl.World) {
		return func(w *impl.World) {
			w.Inns = houses(count)
			w.Inns[at] = n
		}
	}
	tooFull := impl.Inn{Seats: seatsLike(9)}
	lost := impl.Inn{Memory: impl.Memory{Since: -1}}
	checkWorldChanges(t, []worldChange{
		{"no Inns", false, func(w *impl.World) { w.Inns = nil }},
		{"an empty list of them", false, func(w *impl.World) { w.Inns = []impl.Inn{} }},
		{"one", true, func(w *impl.World) { w.Inns = houses(1) }},
		{"two", true, func(w *impl.World) { w.Inns = houses(2) }},
		{"three", true, func(w *impl.World) { w.Inns = houses(3) }},
		{"four", false, func(w *impl.World) { w.Inns = houses(4) }},
		{"five", false, func(w *impl.World) { w.Inns = houses(5) }},
		{"a hundred", false, func(w *impl.World) { w.Inns = make([]impl.Inn, 100) }},
		{"three, and spare room", true, func(w *impl.World) { w.Inns = houses(5)[:3] }},
		{"all alike", true, func(w *impl.World) { w.Inns = slices.Repeat(houses(4)[3:], 3) }},
		{"the zero Inn", true, with(1, 0, noInn)},
		{"the only one has too many Seats", false, with(1, 0, tooFull)},
		{"the only one has a wrong Memory", false, with(1, 0, lost)},
		{"the first one of two has too many Seats", false, with(2, 0, tooFull)},
		{"the last one of two has a wrong Memory", false, with(2, 1, lost)},
		{"the first one of three has a wrong Memory", false, with(3, 0, lost)},
		{"the middle one of three has too many Seats", false, with(3, 1, tooFull)},
		{"the last one of three has a wrong Memory", false, with(3, 2, lost)},
		{"the last one of three has a wrong Seat", false, with(3, 2, impl.Inn{Seats: []impl.Seat{noSeat}})},
		{"the last one of four is wrong", false, with(4, 3, lost)},
		{"all are wrong", false, func(w *impl.World) { w.Inns = []impl.Inn{lost, tooFull, lost} }},
	})
}

func TestWorldOkByGuests(t *testing.T) {
	// The Letters go where they are of a Guest that is not there any more.
	having := func(guests []impl.Guest) func(w *impl.World) {
		return func(w *impl.World) { w.Guests, w.Way = guests, nil }
	}
	with := func(count, at int, change func(g *impl.Guest)) func(w *impl.World) {
		guests := guestsAt(t, count, 3, 2)
		change(&guests[at])
		return having(guests)
	}
	of := func(draw int64) func(g *impl.Guest) { return fit(func(g *impl.Guest) { g.Draw = draw }) }
	wrong := func(g *impl.Guest) { g.Words = []string{"No"} }
	changes := []worldChange{
		{"no Guests", true, having(nil)},
		{"an empty list of them", true, having([]impl.Guest{})},
		{"one", true, having(guestsAt(t, 1, 3, 2))},
		{"the most", true, having(guestsAt(t, 6, 3, 2))},
		{"one more", false, having(guestsAt(t, 7, 3, 2))},
		{"many", false, having(guestsAt(t, 49, 3, 2))},
		{"the most, and spare room", true, having(guestsAt(t, 9, 3, 2)[:6])},
		{"the most, with all Words", true, having(guestsAt(t, 6, 20, 20))},
		{"all alike", true, having(slices.Repeat(guestsAt(t, 1, 3, 2), 6))},
		{"new ones", true, having([]impl.Guest{mustGuest(t, 2), mustGuest(t, 3)})},
		{"the draw of the Secret", true, with(2, 1, of(1))},
		{"the only one is the zero Guest", false, having(make([]impl.Guest, 1))},
		{"one more is wrong", false, with(7, 6, wrong)},
	}
	for _, count := range []int{1, 2, 6} {
		for at := range count {
			name := fmt.Sprintf(", %d of %d", at, count)
			changes = append(changes,
				worldChange{"it is right" + name, true, with(count, at, func(g *impl.Guest) {})},
				worldChange{"it is wrong" + name, false, with(count, at, wrong)},
				worldChange{"it is zero" + name, false, with(count, at, func(g *impl.Guest) { *g = impl.Guest{} })},
				worldChange{"its Draw is 0" + name, false, with(count, at, of(0))},
				worldChange{"its Draw is 1" + name, true, with(count, at, of(1))},
				worldChange{"its Draw is below Last" + name, true, with(count, at, of(49))},
				worldChange{"its Draw is Last" + name, true, with(count, at, of(50))},
				worldChange{"its Draw is past Last" + name, false, with(count, at, of(51))},
				worldChange{"its Draw is far past Last" + name, false, with(count, at, of(100000))},
			)
		}
	}
	checkWorldChanges(t, changes)
}

// TestWorldOkByLast: each Guest's Draw against each Last, at both ends, too.
func TestWorldOkByLast(t *testing.T) {
	for _, draw := range []int64{1, 2, 49, 50, 51, 99999, 100000} {
		for _, last := range []int64{-1, 0, 1, 2, 49, 50, 51, 99999, 100000, 100001, math.MaxInt64} {
			w := mustWorld(t, 2)
			w.Last, w.Guests = last, []impl.Guest{mustGuest(t, draw)}
			if got := checkOfWorld(t, "by Last", w); got != (draw <= last && last <= 100000) {
				t.Errorf("a guest of draw %d, Last %d: %v", draw, last, got)
			}
		}
	}
}

func TestWorldOkByPurse(t *testing.T) {
	with := func(count, at int, k impl.Token) func(w *impl.World) {
		return func(w *impl.World) {
			w.Purse = tokensFrom(t, 11, count)
			w.Purse[at] = k
		}
	}
	changes := []worldChange{
		{"no Tokens", true, func(w *impl.World) { w.Purse = nil }},
		{"an empty list of them", true, func(w *impl.World) { w.Purse = []impl.Token{} }},
		{"one", true, func(w *impl.World) { w.Purse = tokensFrom(t, 11, 1) }},
		{"the most", true, func(w *impl.World) { w.Purse = tokensFrom(t, 11, 6) }},
		{"one more", false, func(w *impl.World) { w.Purse = tokensFrom(t, 11, 7) }},
		{"two of one Secret", false, func(w *impl.World) { w.Purse = slices.Repeat(tokensFrom(t, 11, 1), 2) }},
		{"the first and the last one of one Secret", false, with(6, 5, mustToken(t, 1, 11, 5, 7, 3))},
		{"of another inn", true, with(3, 1, mustToken(t, 2, 40, 5, 7, 3))},
		{"of the Secret of the World", true, with(3, 1, mustToken(t, 1, 1, 5, 7, 3))},
		{"of a Secret past Last", true, with(3, 1, mustToken(t, 1, 51, 5, 7, 3))},
		{"of the draw of a Guest", true, with(3, 1, mustToken(t, 1, 2, 5, 7, 3))},
		{"none of them Fresh any more", true, func(w *impl.World) { w.Now = 100000 }},
		{"none of them born yet", true, func(w *impl.World) { w.Purse = []impl.Token{mustToken(t, 1, 40, 91, 7, 3)} }},
	}
	for _, count := range []int{1, 2, 6} {
		for at := range count {
			for i, k := range wrongTokens(t) {
				changes = append(changes, worldChange{fmt.Sprintf("wrong token %d, %d of %d", i, at, count), false, with(count, at, k)})
			}
		}
	}
	checkWorldChanges(t, changes)
}

// letterParts are what a Letter may be made of; of each part the first one is zero, the last one is not right.
func letterParts(t *testing.T) ([]impl.Hello, []impl.Box, []impl.Answer) {
	t.Helper()
	k := mustToken(t, 1, 5, 70, 100, 20)
	early := mustGreetWith(t, 9, false, k, true, 90)
	hellos := []impl.Hello{
		noHello, mustGreet(t, 9, false), mustGreet(t, 100000, true), early, mustGreetWith(t, 9, true, k, false, 90),
		changedHello(early, func(h *impl.Hello) { h.Bind, h.Seal = impl.Spoil(h.Bind), impl.Spoil(h.Seal) }),
		{Again: true}, changedHello(early, func(h *impl.Hello) { h.Again = true }),
	}
	word := mustLock(t, impl.ForthKey(5, 9, 12), 3, "oats")
	noNumber, noKeyBox := word, word
	noNumber.No, noKeyBox.Key = 1001, noKey
	boxes := []impl.Box{
		noBox, word, impl.Spoil(word), mustLock(t, impl.EarlyKey(5, 9), 0, ""), mustLock(t, impl.TokenKey(1), 0, "5-70-100-20"),
		{Spoilt: true}, noNumber, noKeyBox,
	}
	answer := mustAnswer(t, 9, 12, impl.PkEarly, 5)
	again := mustAnswer(t, 9, 0, impl.PkAgain, 0)
	answers := []impl.Answer{
		noAnswer, answer, mustAnswer(t, 9, 12, impl.PkFull, 0), again,
		changedAnswer(answer, func(a *impl.Answer) { a.Fin = impl.Spoil(a.Fin) }),
		changedAnswer(again, func(a *impl.Answer) { a.Draw = 12 }), changedAnswer(answer, func(a *impl.Answer) { a.Fin = noBox }),
	}
	return hellos, boxes, answers
}

// TestWorldOkOfEachLetter: each Kind and what is none, with each two and three parts, right and wrong, of each Guest and of none.
func TestWorldOkOfEachLetter(t *testing.T) {
	hellos, boxes, answers := letterParts(t)
	base, right := worldLike(t, 1, 2, 0, 0), map[int64]int{}
	for _, kind := range []int64{math.MinInt64, -1, 0, 1, 2, 3, 4, 1<<32 + 1, math.MaxInt64} {
		for _, guest := range []int64{-1, 0, 1, 2} {
			for _, h := range hellos {
				for _, b := range boxes {
					for _, a := range answers {
						l := impl.Letter{Kind: kind, Guest: guest, Hello: h, Box: b, Answer: a}
						w := base
						w.Way = []impl.Letter{l}
						if checkWorldOk(t, "each letter", w) {
							right[kind]++
						}
					}
				}
			}
		}
	}
	// Of two Guests each right part.
	if want := map[int64]int{impl.LtHello: 10, impl.LtBox: 8, impl.LtAnswer: 8}; !maps.Equal(right, want) {
		t.Fatalf("right are %v, not %v", right, want)
	}
}

func TestWorldOkByWay(t *testing.T) {
	way := func(count int) func(w *impl.World) {
		return func(w *impl.World) { w.Way = lettersLike(t, count, 2) }
	}
	changes := []worldChange{
		{"no Letters", true, way(0)},
		{"an empty list of them", true, func(w *impl.World) { w.Way = []impl.Letter{} }},
		{"one", true, way(1)},
		{"one fewer than the most", true, way(59)},
		{"the most", true, way(60)},
		{"one more", false, way(61)},
		{"many", false, way(600)},
		{"the most, and spare room", true, func(w *impl.World) { w.Way = lettersLike(t, 70, 2)[:60] }},
		{"all alike", true, func(w *impl.World) { w.Way = slices.Repeat(lettersLike(t, 1, 2), 60) }},
		{"of nobody who is there", false, func(w *impl.World) { w.Guests, w.Way = nil, lettersLike(t, 1, 1) }},
		{"no Letters, of nobody", true, func(w *impl.World) { w.Guests, w.Way = nil, nil }},
	}
	hellos, boxes, answers := letterParts(t)
	hello := impl.Letter{Kind: impl.LtHello, Guest: 1, Hello: hellos[3]}
	box := impl.Letter{Kind: impl.LtBox, Guest: 1, Box: boxes[1]}
	answer := impl.Letter{Kind: impl.LtAnswer, Guest: 1, Answer: answers[1]}
	changed := func(l impl.Letter, change func(l *impl.Letter)) impl.Letter {
		change(&l)
		return l
	}
	for _, c := range []struct {
		name   string
		want   bool
		letter impl.Letter
	}{
		{"a greeting", true, hello},
		{"a box", true, box},
		{"an answer", true, answer},
		{"a spoilt box", true, changed(box, func(l *impl.Letter) { l.Box.Spoilt = true })},
		{"nothing", false, impl.Letter{}},
		{"nothing, of Kind LtHello", false, impl.Letter{Kind: impl.LtHello, Guest: 1}},
		{"nothing, of Kind LtBox", false, impl.Letter{Kind: impl.LtBox, Guest: 1}},
		{"nothing, of Kind LtAnswer", false, impl.Letter{Kind: impl.LtAnswer, Guest: 1}},
		{"a greeting of Kind 0", false, changed(hello, func(l *impl.Letter) { l.Kind = 0 })},
		{"a greeting of Kind LtBox", false, changed(hello, func(l *impl.Letter) { l.Kind = impl.LtBox })},
		{"a greeting of Kind LtAnswer", false, changed(hello, func(l *impl.Letter) { l.Kind = impl.LtAnswer })},
		{"a box of Kind LtHello", false, changed(box, func(l *impl.Letter) { l.Kind = impl.LtHello })},
		{"a box of Kind LtAnswer", false, changed(box, func(l *impl.Letter) { l.Kind = impl.LtAnswer })},
		{"a box of Kind 4", false, changed(box, func(l *impl.Letter) { l.Kind = 4 })},
		{"an answer of Kind LtHello", false, changed(answer, func(l *impl.Letter) { l.Kind = impl.LtHello })},
		{"an answer of Kind LtBox", false, changed(answer, func(l *impl.Letter) { l.Kind = impl.LtBox })},
		{"an answer of Kind -1", false, changed(answer, func(l *impl.Letter) { l.Kind = -1 })},
		{"a greeting and a box", false, changed(hello, func(l *impl.Letter) { l.Box = box.Box })},
		{"a greeting and an answer", false, changed(hello, func(l *impl.Letter) { l.Answer = answer.Answer })},
		{"a box and a greeting", false, changed(box, func(l *impl.Letter) { l.Hello = hello.Hello })},
		{"a box and an answer", false, changed(box, func(l *impl.Letter) { l.Answer = answer.Answer })},
		{"an answer and a greeting", false, changed(answer, func(l *impl.Letter) { l.Hello = hello.Hello })},
		{"an answer and a box", false, changed(answer, func(l *impl.Letter) { l.Box = box.Box })},
		{"a greeting and a bit of a box", false, changed(hello, func(l *impl.Letter) { l.Box.Spoilt = true })},
		{"a box and a bit of an answer", false, changed(box, func(l *impl.Letter) { l.Answer.Pick = 1 })},
		{"an answer and a bit of a greeting", false, changed(answer, func(l *impl.Letter) { l.Hello.Early = true })},
		{"a greeting that is not right", false, changed(hello, func(l *impl.Letter) { l.Hello.Again = true })},
		{"a box that is not right", false, changed(box, func(l *impl.Letter) { l.Box.No = -1 })},
		{"an answer that is not right", false, changed(answer, func(l *impl.Letter) { l.Answer.Fin.Key = noKey })},
		{"of a Guest below 0", false, changed(hello, func(l *impl.Letter) { l.Guest = -1 })},
		{"of the first Guest", true, changed(hello, func(l *impl.Letter) { l.Guest = 0 })},
		{"of the least int64", false, changed(box, func(l *impl.Letter) { l.Guest = math.MinInt64 })},
		{"of the largest int64", false, changed(box, func(l *impl.Letter) { l.Guest = math.MaxInt64 })},
		{"of the second Guest in 32 bits", false, changed(box, func(l *impl.Letter) { l.Guest = 1<<32 + 1 })},
	} {
		for _, place := range [][2]int{{1, 0}, {2, 0}, {2, 1}, {60, 0}, {60, 30}, {60, 59}} {
			changes = append(changes, worldChange{fmt.Sprintf("%s, at %d of %d", c.name, place[1], place[0]), c.want, func(w *impl.World) {
				way(place[0])(w)
				w.Way[place[1]] = c.letter
			}})
		}
	}
	checkWorldChanges(t, changes)
}

// TestWorldOkByGuestsOfLetters: a Letter is of one of the Guests there are, however many they are.
func TestWorldOkByGuestsOfLetters(t *testing.T) {
	for count := range 7 {
		for guest := int64(-1); guest <= 8; guest++ {
			for _, l := range lettersLike(t, 3, 1) {
				w := worldLike(t, 2, count, 1, 0)
				l.Guest = guest
				w.Way = []impl.Letter{l}
				if got := checkOfWorld(t, "of a guest", w); got != (guest >= 0 && guest < int64(count)) {
					t.Errorf("of guest %d of %d: %v", guest, count, got)
				}
			}
		}
	}
}

// wrongWorlds are each wrong by one thing alone, whatever else there is.
func wrongWorlds(t *testing.T) []impl.World {
	t.Helper()
	wrong := []impl.World{noWorld}
	bases := worldBases(t)
	for _, base := range bases {
		for _, change := range []func(w *impl.World){
			func(w *impl.World) { w.Secret = 0 },
			func(w *impl.World) { w.Secret = 100001 },
			func(w *impl.World) { w.Now = -1 },
			func(w *impl.World) { w.Now = 100001 },
			func(w *impl.World) { w.Last = -1 },
			func(w *impl.World) { w.Last = 100001 },
			func(w *impl.World) { w.Inns = nil },
			func(w *impl.World) { w.Inns = make([]impl.Inn, 4) },
			func(w *impl.World) { w.Guests = guestsAt(t, 7, 0, 0) },
			func(w *impl.World) { w.Guests = append(w.Guests[:min(5, len(w.Guests))], mustGuest(t, 51)) },
			func(w *impl.World) { w.Purse = tokensFrom(t, 11, 7) },
			func(w *impl.World) { w.Purse = slices.Repeat(tokensFrom(t, 11, 1), 2) },
			func(w *impl.World) { w.Way = lettersLike(t, 61, 1) },
			func(w *impl.World) { w.Way = append(w.Way[:min(59, len(w.Way))], impl.Letter{}) },
			func(w *impl.World) { w.Guests, w.Way = nil, lettersLike(t, 1, 1) },
		} {
			wrong = append(wrong, changedWorld(base, change))
		}
	}
	few := worldLike(t, 1, 2, 1, 3)
	for i, n := range wrongInns(t) {
		wrong = append(wrong, changedWorld(worldLike(t, 1+i%3, 1, 1, 1), func(w *impl.World) { w.Inns[i/3%len(w.Inns)] = n }))
	}
	for i, g := range wrongGuests(t) {
		// What stands behind the Guest is of no matter, so one of few is enough.
		wrong = append(wrong, changedWorld(few, func(w *impl.World) { w.Guests[i%2] = g }))
	}
	for i, k := range wrongTokens(t) {
		wrong = append(wrong, changedWorld(bases[len(bases)-1], func(w *impl.World) { w.Purse[i%6] = k }))
	}
	return wrong
}

// TestWorldsThatAreNotRight: whatever is wrong, the zero World is answered, false, and -1, by whatever call.
func TestWorldsThatAreNotRight(t *testing.T) {
	for _, w := range wrongWorlds(t) {
		if worldIsRight(w) || impl.WorldOk(w) {
			t.Fatalf("%v is right", w)
		}
		if got, is := impl.Invited(w); !sameWorld(got, noWorld) || is {
			t.Fatalf("Invited(%v) = %v, %v", w, got, is)
		}
		for _, life := range []int64{0, 1, 1000, 1001} {
			if got, is := impl.Tokened(w, life, 20); !sameWorld(got, noWorld) || is {
				t.Fatalf("Tokened(%v, %d, 20) = %v, %v", w, life, got, is)
			}
		}
		if got := impl.Letters(w); got != -1 {
			t.Fatalf("Letters(%v) = %d", w, got)
		}
	}
}

func TestNewWorld(t *testing.T) {
	for houses, want := range map[int64]bool{
		math.MinInt64: false, -1: false, 0: false, 1: true, 2: true, 3: true, 4: false, 5: false, 100: false,
		1 << 32: false, 1<<32 + 1: false, math.MaxInt64: false,
	} {
		got, is := impl.NewWorld(houses)
		if is != want || is != impl.WorldOk(got) || !is && !sameWorld(got, noWorld) {
			t.Errorf("NewWorld(%d) = %v, %v", houses, got, is)
		}
		if !is {
			continue
		}
		if got.Secret != 1 || got.Now != 0 || got.Last != 1 || int64(len(got.Inns)) != houses || len(got.Guests)+len(got.Purse)+len(got.Way) != 0 {
			t.Errorf("NewWorld(%d) = %v", houses, got)
		}
		for i, n := range got.Inns {
			if !sameInn(n, impl.Inn{Memory: mustMemory(t, 0)}) {
				t.Errorf("NewWorld(%d): house %d is %v", houses, i, n)
			}
		}
		if model, _ := wantNewWorld(houses); !sameWorld(got, model) {
			t.Errorf("NewWorld(%d) = %v: the model", houses, got)
		}
	}
	for houses := int64(-300); houses <= 300; houses++ {
		want, right := wantNewWorld(houses)
		if got, is := impl.NewWorld(houses); !sameWorld(got, want) || is != right {
			t.Fatalf("NewWorld(%d) = %v, %v", houses, got, is)
		}
	}
}

func TestInvited(t *testing.T) {
	for _, c := range []struct {
		name   string
		guests int
		last   int64
		// The draw of the new one, 0 where there is none.
		want int64
	}{
		{"nobody yet", 0, 50, 51},
		{"one yet", 1, 50, 51},
		{"room for two", 4, 50, 51},
		{"room for one", 5, 50, 51},
		{"no room", 6, 50, 0},
		{"Last 0", 0, 0, 1},
		{"Last 1", 0, 1, 2},
		{"the Draw of a Guest is Last", 5, 6, 7},
		{"one draw more", 0, 99999, 100000},
		{"one draw more, room for one", 5, 99999, 100000},
		{"one draw more, no room", 6, 99999, 0},
		{"no draw more", 0, 100000, 0},
		{"no draw more, room for one", 5, 100000, 0},
		{"no draw more, no room", 6, 100000, 0},
	} {
		for _, base := range worldBases(t) {
			w := changedWorld(base, func(w *impl.World) {
				w.Last, w.Guests = c.last, guestsAt(t, c.guests, 3, 2)
				if c.guests == 0 {
					w.Way = nil
				}
				for i := range w.Way {
					w.Way[i].Guest = 0
				}
			})
			want := cloneWorld(w)
			if c.want != 0 {
				want.Last = c.want
				want.Guests = append(want.Guests, mustGuest(t, c.want))
			}
			if got, is := impl.Invited(w); is != (c.want != 0) || !sameWorld(got, want) || !impl.WorldOk(got) {
				t.Errorf("%s: Invited(%v) = %v, %v", c.name, w, got, is)
			}
			checkInvited(t, c.name+", the model", w)
		}
	}
}

// TestTokenedByNumbers: each life and each most, at the edges of what is right, and each Secret, Now and Last.
func TestTokenedByNumbers(t *testing.T) {
	lives := []int64{math.MinInt64, -1, 0, 1, 2, 100, 999, 1000, 1001, 1<<32 + 1, math.MaxInt64}
	mosts := []int64{math.MinInt64, -1, 0, 1, 20, 99, 100, 101, 1<<32 + 1, math.MaxInt64}
	for _, numbers := range [][3]int64{
		{1, 90, 50}, {1, 0, 50}, {1, 100000, 50}, {2, 90, 50}, {100000, 90, 50}, {51, 90, 50},
		{1, 90, 7}, {1, 90, 99998}, {1, 90, 99999}, {1, 90, 100000}, {100000, 100000, 99999}, {100000, 100000, 100000},
	} {
		for _, base := range []impl.World{worldLike(t, 2, 3, 0, 7), worldLike(t, 1, 0, 5, 0), fullWorld(t)} {
			w := changedWorld(base, func(w *impl.World) { w.Secret, w.Now, w.Last = numbers[0], numbers[1], numbers[2] })
			for _, life := range lives {
				for _, most := range mosts {
					right := life >= 1 && life <= 1000 && most >= 0 && most <= 100 && w.Last < 100000
					got, is := checkTokened(t, "by numbers", w, life, most)
					if is != right {
						t.Fatalf("Tokened(%v, %d, %d) = %v, %v", w, life, most, got, is)
					}
					if !is {
						continue
					}
					k := got.Purse[len(got.Purse)-1]
					if k.Secret != w.Last+1 || got.Last != w.Last+1 || k.Born != w.Now || k.Life != life || k.Most != most || !impl.Fresh(k, w.Now) {
						t.Fatalf("Tokened(%v, %d, %d) = %v", w, life, most, got)
					}
					if opened, of := impl.Unsealed(w.Secret, k.Seal); !of || opened != k {
						t.Fatalf("Tokened(%v, %d, %d): inn %d makes %v of its Seal", w, life, most, w.Secret, opened)
					}
					if opened, of := impl.Unsealed(w.Secret-1, k.Seal); of {
						t.Fatalf("Tokened(%v, %d, %d): inn %d makes %v of its Seal", w, life, most, w.Secret-1, opened)
					}
				}
			}
		}
	}
	// At Last 0 there is no Guest, as its Draw would be past it.
	w := mustWorld(t, 1)
	w.Last = 0
	if got, is := checkTokened(t, "Last 0", w, 100, 20); !is || got.Purse[0].Secret != 1 || got.Last != 1 {
		t.Errorf("Tokened(%v, 100, 20) = %v, %v", w, got, is)
	}
}

// TestTokenedByPurse: with room it is one more; a full one loses its first one, Fresh or not, and no other one.
func TestTokenedByPurse(t *testing.T) {
	for count := range 7 {
		for _, now := range []int64{0, 5, 10, 11, 25, 60, 61, 90, 100000} {
			// The first of them is Fresh until 10, the last one of six until 60.
			w := worldLike(t, 2, 3, count, 7)
			w.Now = now
			k := mustToken(t, 1, 51, now, 100, 20)
			want := changedWorld(w, func(w *impl.World) {
				w.Last = 51
				if count == 6 {
					w.Purse = w.Purse[1:]
				}
				w.Purse = append(w.Purse, k)
			})
			if got, is := impl.Tokened(w, 100, 20); !is || !sameWorld(got, want) || !impl.WorldOk(got) {
				t.Errorf("%d tokens, now %d: Tokened(%v, 100, 20) = %v, %v", count, now, w, got, is)
			}
			if got, is := impl.Tokened(w, 0, 20); is || !sameWorld(got, w) {
				t.Errorf("%d tokens, now %d: Tokened(%v, 0, 20) = %v, %v", count, now, w, got, is)
			}
			// A token of the next draw is there already, at each place: it is not Kept.
			for at := range count {
				there := changedWorld(w, func(w *impl.World) { w.Purse[at] = mustToken(t, 1, 51, 3, 20, 7) })
				if got, is := checkTokened(t, "there already", there, 100, 20); is || !sameWorld(got, there) {
					t.Errorf("%d tokens, it is there at %d: Tokened(%v, 100, 20) = %v, %v", count, at, there, got, is)
				}
			}
		}
	}
}

// TestTokenedFillsThePurse: the seventh takes the place of the first one, and so on.
func TestTokenedFillsThePurse(t *testing.T) {
	w := mustWorld(t, 2)
	for i := range int64(20) {
		w.Now = i
		w, _ = checkTokened(t, "fills", w, 1+i, i)
		for j, k := range w.Purse {
			at := i - int64(len(w.Purse)) + 1 + int64(j)
			if k != mustToken(t, 1, at+2, at, 1+at, at) {
				t.Fatalf("behind %d tokens number %d is %v", i+1, j, k)
			}
		}
		if len(w.Purse) != int(min(i+1, 6)) || w.Last != i+2 {
			t.Fatalf("behind %d tokens: %v", i+1, w)
		}
	}
}

func TestLetters(t *testing.T) {
	for count := range 63 {
		for _, guests := range []int{1, 2, 6} {
			w := worldLike(t, 2, guests, 1, count)
			want := int64(count)
			if count > 60 {
				want = -1
			}
			if got := impl.Letters(w); got != want || wantLetters(w) != want {
				t.Errorf("Letters(%v) = %d, not %d", w, got, want)
			}
			// What is wrong elsewhere makes it -1, too.
			w.Now = -1
			if got := impl.Letters(w); got != -1 {
				t.Errorf("Letters(%v) = %d", w, got)
			}
		}
	}
	for _, w := range worldBases(t) {
		if got := impl.Letters(w); got != int64(len(w.Way)) {
			t.Errorf("Letters(%v) = %d", w, got)
		}
	}
}

// TestLettersStayInOrder: however many are on the way, what is done elsewhere leaves them in their order.
func TestLettersStayInOrder(t *testing.T) {
	for count := range 61 {
		w := worldLike(t, 2, 3, 2, count)
		for _, turned := range eitherWay {
			if turned {
				slices.Reverse(w.Way)
			}
			given := slices.Clone(w.Way)
			invited, _ := impl.Invited(w)
			tokened, _ := impl.Tokened(w, 100, 20)
			refused, _ := impl.Tokened(w, 0, 20)
			for _, got := range []impl.World{invited, tokened, refused} {
				if !slices.Equal(got.Way, given) {
					t.Fatalf("of %v on the way: %v", given, got.Way)
				}
			}
		}
	}
}

// drawsIn are those that a World has: its Secret, its Guests' and its Tokens', those that were Spent by a Guest, too.
func drawsIn(w impl.World) []int64 {
	draws := []int64{w.Secret}
	for _, g := range w.Guests {
		draws = append(draws, g.Draw)
		if g.Token != noToken {
			draws = append(draws, g.Token.Secret)
		}
	}
	for _, k := range w.Purse {
		draws = append(draws, k.Secret)
	}
	return draws
}

// worldOnTheWay is a World, and all draws that were ever given in it.
type worldOnTheWay struct {
	world impl.World
	draws []int64
}

// stepped wants of each step one draw more that is Last, or that all stays as it is.
func (o worldOnTheWay) stepped(t *testing.T, name string, next impl.World, is bool) worldOnTheWay {
	t.Helper()
	if !is {
		if !sameWorld(next, o.world) {
			t.Fatalf("%s: refused, but of %v it makes %v", name, o.world, next)
		}
		return o
	}
	draws := append(slices.Clone(o.draws), next.Last)
	had := drawsIn(next)
	if !isDraw(next.Last) || !impl.AllUnlike(draws) || someAlike(had) {
		t.Fatalf("%s: of %v it makes %v, behind the draws %v", name, o.world, next, o.draws)
	}
	for _, d := range had {
		if !slices.Contains(draws, d) {
			t.Fatalf("%s: %d in %v was never given", name, d, next)
		}
	}
	return worldOnTheWay{next, draws}
}

// TestAllDrawsOfANewWorldAreUnlike goes all ways of up to 9 steps: one is invited, a token is made, or one that can't be.
func TestAllDrawsOfANewWorldAreUnlike(t *testing.T) {
	for _, houses := range []int64{1, 2, 3} {
		w := mustWorld(t, houses)
		ways, refused := []worldOnTheWay{{w, []int64{w.Secret}}}, 0
		for step := range 9 {
			var next []worldOnTheWay
			for _, o := range ways {
				invited, came := impl.Invited(o.world)
				next = append(next, o.stepped(t, "invited", invited, came))
				if came != (len(o.world.Guests) < 6) {
					t.Fatalf("of %v: %v, %v", o.world, invited, came)
				}
				tokened, made := impl.Tokened(o.world, 100, 20)
				next = append(next, o.stepped(t, "tokened", tokened, made))
				if !made {
					t.Fatalf("of %v: %v", o.world, tokened)
				}
				// Time goes on, and what can't be is refused; not at each step, as that makes no other ways.
				if step%3 == 0 {
					wrong, is := impl.Tokened(o.world, 0, 20)
					later := o.stepped(t, "no life", wrong, is)
					later.world.Now += 40
					next = append(next, later)
					refused++
				}
			}
			ways = next
		}
		if len(ways) < 1500 || refused < 100 {
			t.Fatalf("%d ways, %d times refused", len(ways), refused)
		}
		for _, o := range ways {
			if !impl.WorldOk(o.world) || len(o.draws) < 5 {
				t.Fatalf("in the end %v, behind the draws %v", o.world, o.draws)
			}
		}
	}
}

// TestDrawsUntilThereAreNone gives all draws there are: each comes once, and then nobody is invited and no token is made any more.
func TestDrawsUntilThereAreNone(t *testing.T) {
	w := mustWorld(t, 1)
	given := make([]bool, 100001)
	given[w.Secret] = true
	for i := 0; w.Last < 100000; i++ {
		before := w.Last
		is := false
		// The six Guests come far apart from each other, the last one as one of the last draws.
		if i%19998 == 7 {
			w, is = impl.Invited(w)
		} else {
			w, is = impl.Tokened(w, 1+int64(i%1000), int64(i%101))
			w.Now = int64(i)
		}
		if !is || w.Last != before+1 || given[w.Last] {
			t.Fatalf("behind draw %d: %v, %v", before, w, is)
		}
		given[w.Last] = true
	}
	if slices.Contains(given[1:], false) || someAlike(drawsIn(w)) || !worldIsRight(w) || len(w.Guests) != 6 || len(w.Purse) != 6 {
		t.Fatalf("in the end %v", w)
	}
	w.Guests = w.Guests[:3]
	if got, is := checkInvited(t, "no draw", w); is || !sameWorld(got, w) {
		t.Fatalf("Invited(%v) = %v, %v", w, got, is)
	}
	if got, is := checkTokened(t, "no draw", w, 100, 20); is || !sameWorld(got, w) {
		t.Fatalf("Tokened(%v) = %v, %v", w, got, is)
	}
}

// TestWorldsOnALongWay: Guests that are invited greet with Tokens that are Spent, and go again, while new ones are made.
func TestWorldsOnALongWay(t *testing.T) {
	state, came := int64(3), map[string]int{}
	chance := func(n int64) int64 {
		state = (state*1103515245 + 12345) % (1 << 31)
		return state / 65536 % n
	}
	for range 60 {
		w := mustWorld(t, 1+chance(3))
		o := worldOnTheWay{w, []int64{w.Secret}}
		for range 120 {
			name := "refused"
			w, is := o.world, false
			switch chance(4) {
			case 0:
				w, is = checkInvited(t, "on a long way", w)
				if is {
					name = "invited"
				}
			case 1:
				w, is = checkTokened(t, "on a long way", w, chance(300)-2, chance(104)-2)
				if is {
					name = "tokened"
				}
			case 2:
				o.world.Now += chance(20)
				continue
			case 3:
				o.world = greetsAndGoes(o.world)
				continue
			}
			o = o.stepped(t, name, w, is)
			came[name]++
			checkLetters(t, "on a long way", o.world)
		}
	}
	if came["refused"] < 100 || came["invited"] < 100 || came["tokened"] < 100 {
		t.Fatalf("%v", came)
	}
}

// greetsAndGoes has the first Guest offer, with a Token that is Spent if there is one; one that did so already goes.
func greetsAndGoes(w impl.World) impl.World {
	if len(w.Guests) == 0 {
		return w
	}
	w = cloneWorld(w)
	if w.Guests[0].State != impl.GuNew {
		w.Guests = w.Guests[1:]
		return w
	}
	purse, k, has := impl.Spent(w.Purse, w.Now)
	w.Purse = purse
	w.Guests[0], _, _ = impl.Offer(w.Guests[0], k, has, has, w.Now)
	return w
}

// worldCalls are calls whose answers are Worlds, those that do something and those that are refused.
var worldCalls = []func(impl.World) impl.World{
	func(w impl.World) impl.World { w, _ = impl.Invited(w); return w },
	func(w impl.World) impl.World { w, _ = impl.Tokened(w, 100, 20); return w },
	func(w impl.World) impl.World { w, _ = impl.Tokened(w, 1000, 0); return w },
	func(w impl.World) impl.World { w, _ = impl.Tokened(w, 0, 20); return w },
	func(w impl.World) impl.World { w, _ = impl.Tokened(w, 100, 101); return w },
	func(w impl.World) impl.World { w, _ = impl.NewWorld(int64(len(w.Inns))); return w },
}

// worldRooms is one row of memory for all lists of a kind.
type worldRooms struct {
	inns    []impl.Inn
	seen    []int64
	seats   []impl.Seat
	words   []impl.Word
	guests  []impl.Guest
	texts   []string
	tokens  []impl.Token
	letters []impl.Letter
}

// worldSize is how many there are: Inns, in each so many Seen and Seats with so many Words; Guests with so many Early and so many Words;
// Tokens and Letters.
type worldSize struct {
	inns, seen, seats, words, guests, texts, tokens, letters int
}

// oneWorld has its lists in such rooms, each with spare room behind it: behind the list of one lies that of the next one.
func oneWorld(t *testing.T, s worldSize) (impl.World, worldRooms) {
	t.Helper()
	r := worldRooms{
		inns:    make([]impl.Inn, s.inns+1),
		seen:    drawsFrom(900, s.inns*s.seen+3),
		seats:   seatsLike(s.inns*s.seats + 2),
		words:   manyWords(0, (s.inns*s.seats+1)*s.words+3),
		guests:  guestsAt(t, s.guests+2, s.texts, s.texts),
		texts:   numbered((s.guests+1)*2*s.texts + 3),
		tokens:  tokensFrom(t, 11, s.tokens+2),
		letters: lettersLike(t, s.letters+3, max(1, s.guests)),
	}
	for i := range s.inns * s.seats {
		r.seats[i].Log = r.words[i*s.words : (i+1)*s.words]
	}
	for i := range s.inns {
		r.inns[i].Memory.Seen = r.seen[i*s.seen : (i+1)*s.seen]
		r.inns[i].Seats = r.seats[i*s.seats : (i+1)*s.seats]
	}
	for i := range s.guests {
		g := &r.guests[i]
		g.Early, g.Words = r.texts[2*i*s.texts:(2*i+1)*s.texts], r.texts[(2*i+1)*s.texts:(2*i+2)*s.texts]
	}
	return impl.World{
		Secret: 1, Now: 90, Last: 50, Inns: r.inns[:s.inns], Guests: r.guests[:s.guests], Purse: r.tokens[:s.tokens], Way: r.letters[:s.letters],
	}, r
}

func (r worldRooms) cloned() worldRooms {
	of := cloneWorld(impl.World{Inns: r.inns, Guests: r.guests, Purse: r.tokens, Way: r.letters})
	seats := cloneInn(impl.Inn{Seats: r.seats}).Seats
	return worldRooms{of.Inns, slices.Clone(r.seen), seats, slices.Clone(r.words), of.Guests, slices.Clone(r.texts), of.Purse, of.Way}
}

func (r worldRooms) same(other worldRooms) bool {
	return slices.EqualFunc(r.inns, other.inns, sameInn) && slices.Equal(r.seen, other.seen) &&
		slices.EqualFunc(r.seats, other.seats, sameSeat) && slices.Equal(r.words, other.words) &&
		slices.EqualFunc(r.guests, other.guests, sameGuest) && slices.Equal(r.texts, other.texts) &&
		slices.Equal(r.tokens, other.tokens) && slices.Equal(r.letters, other.letters)
}

func (r worldRooms) overwrite() {
	overwrite(r.inns, impl.Inn{Memory: impl.Memory{Since: 99}})
	overwrite(r.seen, 99)
	overwrite(r.seats, impl.Seat{State: 9})
	overwrite(r.words, impl.Word{Text: "overwritten", Early: true})
	overwrite(r.guests, impl.Guest{State: 9})
	overwrite(r.texts, "overwritten")
	overwrite(r.tokens, impl.Token{Secret: 99})
	overwrite(r.letters, impl.Letter{Kind: 9})
}

// moved is the list in memory of its own, while what it was in is written over, spare room and all.
func moved[T any](list []T, by T) []T {
	own := slices.Clone(list)
	overwrite(list, by)
	return own
}

// movingLists are what moves each list of a World, one after the other.
func movingLists(w *impl.World) []func() {
	moves := []func(){
		func() { w.Inns = moved(w.Inns, impl.Inn{Memory: impl.Memory{Since: 99}}) },
		func() { w.Guests = moved(w.Guests, impl.Guest{State: 9}) },
		func() { w.Purse = moved(w.Purse, impl.Token{Secret: 99}) },
		func() { w.Way = moved(w.Way, impl.Letter{Kind: 9}) },
	}
	for i := range w.Inns {
		moves = append(moves,
			func() { w.Inns[i].Seats = moved(w.Inns[i].Seats, impl.Seat{State: 9}) },
			func() { w.Inns[i].Memory.Seen = moved(w.Inns[i].Memory.Seen, 99) },
		)
		for j := range w.Inns[i].Seats {
			moves = append(moves, func() {
				w.Inns[i].Seats[j].Log = moved(w.Inns[i].Seats[j].Log, impl.Word{Text: "overwritten", Early: true})
			})
		}
	}
	for i := range w.Guests {
		moves = append(moves,
			func() { w.Guests[i].Early = moved(w.Guests[i].Early, "overwritten") },
			func() { w.Guests[i].Words = moved(w.Guests[i].Words, "overwritten") },
		)
	}
	return moves
}

var worldSizes = []worldSize{
	{inns: 1}, {inns: 3}, {1, 1, 1, 1, 1, 1, 1, 1}, {2, 2, 3, 4, 3, 2, 3, 5}, {3, 6, 8, 2, 6, 3, 6, 60}, {3, 5, 7, 60, 5, 20, 5, 59},
	{2, 0, 2, 0, 2, 0, 6, 3}, {1, 6, 8, 59, 6, 19, 5, 1}, {3, 0, 0, 0, 5, 4, 0, 31}, {1, 3, 0, 0, 0, 0, 4, 0},
	// These are not right.
	{inns: 0}, {4, 1, 1, 1, 1, 1, 1, 1}, {1, 7, 1, 1, 1, 1, 1, 1}, {1, 1, 9, 1, 1, 1, 1, 1}, {1, 1, 1, 61, 1, 1, 1, 1},
	{1, 1, 1, 1, 7, 1, 1, 1}, {1, 1, 1, 1, 1, 21, 1, 1}, {1, 1, 1, 1, 1, 1, 7, 1}, {1, 1, 1, 1, 1, 1, 1, 61},
}

func TestWorldArgumentsStay(t *testing.T) {
	right := 0
	for _, size := range worldSizes {
		for i, call := range worldCalls {
			w, rooms := oneWorld(t, size)
			given, kept := rooms.cloned(), cloneWorld(w)
			if impl.WorldOk(w) {
				right++
			}
			impl.Letters(w)
			got := call(w)
			if !rooms.same(given) || !sameWorld(w, kept) {
				t.Fatalf("size %v, call %d: of %v now %v", size, i, kept, w)
			}
			// Nor does it change by what is done to the answer.
			for _, move := range movingLists(&got) {
				move()
			}
			if !rooms.same(given) || !sameWorld(w, kept) {
				t.Fatalf("size %v, call %d: behind its answer of %v now %v", size, i, kept, w)
			}
		}
	}
	if right != 10*len(worldCalls) {
		t.Fatalf("%d were right", right)
	}
}

// TestWorldAnswersAreNew: an answer stays as it was, whatever is done to the argument, and each list of it whatever is done to the others.
func TestWorldAnswersAreNew(t *testing.T) {
	for _, size := range worldSizes {
		for i, call := range worldCalls {
			w, rooms := oneWorld(t, size)
			got := call(w)
			want := cloneWorld(got)
			rooms.overwrite()
			if !sameWorld(got, want) {
				t.Fatalf("size %v, call %d: the answer was %v, now it is %v", size, i, want, got)
			}
			for j, move := range movingLists(&got) {
				if move(); !sameWorld(got, want) {
					t.Fatalf("size %v, call %d: the answer was %v, by list %d it is %v", size, i, want, j, got)
				}
			}
		}
	}
}

// TestWorldsOfOneWorld: what becomes of a World in one way is of no matter for what becomes of it in another one.
func TestWorldsOfOneWorld(t *testing.T) {
	for _, base := range worldBases(t) {
		var answers, kept []impl.World
		for range 2 {
			for _, call := range worldCalls {
				answers = append(answers, call(base))
			}
		}
		for _, w := range answers {
			kept = append(kept, cloneWorld(w))
		}
		for i := range answers {
			gone := answers[i]
			for _, move := range movingLists(&gone) {
				move()
			}
			for j := i + 1; j < len(answers); j++ {
				if !sameWorld(answers[j], kept[j]) {
					t.Fatalf("of %v: answer %d was %v, by answer %d it is %v", base, j, kept[j], i, answers[j])
				}
			}
		}
	}
}

// changesToLetter are each number of a Letter of that Kind, one after the other, and all of them.
func changesToLetter(kind, n int64) []func(l *impl.Letter) {
	changes := []func(l *impl.Letter){
		func(l *impl.Letter) { l.Kind = n },
		func(l *impl.Letter) { l.Guest = n },
		func(l *impl.Letter) { l.Kind, l.Guest = n, n },
		func(l *impl.Letter) { l.Hello.Draw = n },
		func(l *impl.Letter) { l.Hello.Age = n },
		func(l *impl.Letter) { l.Answer.Hello = n },
		func(l *impl.Letter) { l.Answer.Draw = n },
		func(l *impl.Letter) { l.Answer.Pick = n },
	}
	for i := range 6 {
		changes = append(changes,
			func(l *impl.Letter) { l.Box = changesToBox(l.Box, n)[i] },
			func(l *impl.Letter) { l.Hello.Seal = changesToBox(l.Hello.Seal, n)[i] },
			func(l *impl.Letter) { l.Hello.Bind = changesToBox(l.Hello.Bind, n)[i] },
			func(l *impl.Letter) { l.Answer.Fin = changesToBox(l.Answer.Fin, n)[i] },
		)
	}
	return changes
}

// TestWorldsAtEachNumber: each number of a World, and of what is in it, is each of these once, right or wrong, and nothing panics.
func TestWorldsAtEachNumber(t *testing.T) {
	base := worldLike(t, 2, 3, 2, 6)
	for _, n := range append(slices.Clone(guestNumbers), 49, 50, 51, 1<<32+50) {
		for _, change := range []func(w *impl.World){
			func(w *impl.World) { w.Secret = n },
			func(w *impl.World) { w.Now = n },
			func(w *impl.World) { w.Last = n },
			func(w *impl.World) { w.Last, w.Guests, w.Way = n, nil, nil },
			func(w *impl.World) { w.Secret, w.Now, w.Last = n, n, n },
			func(w *impl.World) { w.Inns[1].Memory.Since = n },
			func(w *impl.World) { w.Inns[1].Memory.Seen[0] = n },
			func(w *impl.World) { w.Purse[1].Secret = n },
			func(w *impl.World) { w.Purse[1].Born = n },
			func(w *impl.World) { w.Purse[1].Life = n },
			func(w *impl.World) { w.Purse[1].Most = n },
			func(w *impl.World) { w.Purse[1].Seal.No = n },
		} {
			checkOfWorld(t, "each number", changedWorld(base, change))
		}
		for i := range base.Guests {
			for _, change := range changesTo(n) {
				checkOfWorld(t, "each number of a guest", changedWorld(base, func(w *impl.World) { change(&w.Guests[i]) }))
				checkOfWorld(t, "each number of a guest, with its row", changedWorld(base, func(w *impl.World) { fit(change)(&w.Guests[i]) }))
			}
		}
		for _, change := range changesToSeat(n) {
			checkOfWorld(t, "each number of a seat", changedWorld(base, func(w *impl.World) { change(&w.Inns[1].Seats[2]) }))
		}
		for i, l := range base.Way {
			for _, change := range changesToLetter(l.Kind, n) {
				checkOfWorld(t, "each number of a letter", changedWorld(base, func(w *impl.World) { change(&w.Way[i]) }))
			}
		}
		want, right := wantNewWorld(n)
		if got, is := impl.NewWorld(n); !sameWorld(got, want) || is != right {
			t.Fatalf("NewWorld(%d) = %v, %v", n, got, is)
		}
		checkTokened(t, "each life", base, n, 20)
		checkTokened(t, "each most", base, 100, n)
		checkTokened(t, "both", base, n, n)
	}
}

// TestWorldAnswersDoNotHangOnCallsAhead: what was done in another World ahead of a call, or in the same one, is of no matter.
func TestWorldAnswersDoNotHangOnCallsAhead(t *testing.T) {
	for range 3 {
		for _, w := range append(worldBases(t), wrongWorlds(t)[:40]...) {
			for range 2 {
				checkOfWorld(t, "behind another one", w)
			}
			for houses := range int64(5) {
				want, right := wantNewWorld(houses)
				if got, is := impl.NewWorld(houses); !sameWorld(got, want) || is != right {
					t.Fatalf("NewWorld(%d) = %v, %v", houses, got, is)
				}
			}
		}
	}
}
