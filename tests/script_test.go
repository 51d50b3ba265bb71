package tests

import (
	"fmt"
	"math"
	"math/rand/v2"
	"regexp"
	"slices"
	"strconv"
	"strings"
	"testing"

	"loop.example/g00558/impl"
)

var noAct = impl.Act{}

// actRow is how an act of a Kind is written: by what it is shown, and how many of A, B and C, and whether Text, it tells.
type actRow struct {
	kind    int64
	word    string
	numbers int
	text    bool
}

var actRows = []actRow{
	{impl.AcInvite, "invite", 0, false}, {impl.AcToken, "token", 2, false}, {impl.AcEarly, "early", 1, true}, {impl.AcSay, "say", 1, true},
	{impl.AcOffer, "offer", 2, false}, {impl.AcSend, "send", 1, false}, {impl.AcGreet, "greet", 3, false}, {impl.AcHand, "hand", 3, false},
	{impl.AcHear, "hear", 2, false}, {impl.AcLose, "lose", 1, false}, {impl.AcTwice, "twice", 1, false}, {impl.AcSpoil, "spoil", 1, false},
	{impl.AcTick, "tick", 1, false}, {impl.AcFall, "fall", 1, false}, {impl.AcShut, "shut", 1, false},
}

// wrongKinds are no Kinds.
var wrongKinds = []int64{math.MinInt64, -15, -1, 0, 16, 17, 100, 1 << 32, 1<<32 + 1, math.MaxInt64}

// told is the act with what its Kind does not tell zero.
func told(a impl.Act) impl.Act {
	for _, row := range actRows {
		if row.kind != a.Kind {
			continue
		}
		if row.numbers < 3 {
			a.C = 0
		}
		if row.numbers < 2 {
			a.B = 0
		}
		if row.numbers < 1 {
			a.A = 0
		}
		if !row.text {
			a.Text = ""
		}
	}
	return a
}

// withUntold are acts that are told alike, with other things in what is not told.
func withUntold(a impl.Act) []impl.Act {
	list := []impl.Act{told(a)}
	for _, other := range []impl.Act{
		{A: math.MinInt64, B: math.MinInt64, C: math.MinInt64, Text: "hay"}, {A: -1, B: -1, C: -1, Text: "No text"},
		{A: 1, B: 1, C: 1, Text: strings.Repeat("z", 13)}, {A: 7, B: 1000000000, C: math.MaxInt64},
	} {
		other.Kind = a.Kind
		for _, row := range actRows {
			if row.kind != a.Kind {
				continue
			}
			for i, to := range []*int64{&other.A, &other.B, &other.C}[:row.numbers] {
				*to = []int64{a.A, a.B, a.C}[i]
			}
			if row.text {
				other.Text = a.Text
			}
		}
		list = append(list, other)
	}
	return list
}

// The models go through chapter 17, sentence by sentence.

func wantHappen(w impl.World, a impl.Act) (impl.World, bool) {
	if !worldIsRight(w) {
		return noWorld, false
	}
	next, is := cloneWorld(w), false
	switch a.Kind {
	case 1:
		next, is = wantInvited(w)
	case 2:
		next, is = wantTokened(w, a.A, a.B)
	case 3, 4, 5, 6, 15:
		if a.A >= 0 && a.A < int64(len(w.Guests)) {
			is = wantDone(&next, a)
		}
	case 7, 8, 9, 10, 11, 12:
		if a.A >= 0 && a.A < int64(len(w.Way)) {
			is = wantOnTheWay(&next, a)
		}
	case 13:
		is = a.A >= 1 && a.A <= 100000 && w.Now+a.A <= 100000
		next.Now += a.A
	case 14:
		for i, n := range w.Inns {
			if int64(i) == a.A {
				next.Inns[i], is = wantFallen(n, w.Now)
			}
		}
	}
	if !is || len(next.Way) > 60 {
		return w, false
	}
	return next, true
}

// wantDone is what a guest does who is there.
func wantDone(w *impl.World, a impl.Act) bool {
	g := &w.Guests[a.A]
	var is bool
	switch a.Kind {
	case 3:
		*g, is = wantSayEarly(*g, a.Text)
	case 4:
		*g, is = wantSay(*g, a.Text)
	case 5:
		purse, k, has := wantSpent(w.Purse, w.Now)
		next, h, offered := wantOffer(*g, k, has, a.B == 1, w.Now)
		*g, w.Purse = next, purse
		w.Way = append(w.Way, impl.Letter{Kind: 1, Guest: a.A, Hello: h})
		is = offered && (a.B == 0 || a.B == 1)
	case 6:
		var boxes []impl.Box
		if g.State == 1 {
			*g, boxes = wantSendEarly(*g)
		}
		if g.State == 3 {
			*g, boxes = wantSend(*g)
		}
		for _, b := range boxes {
			w.Way = append(w.Way, impl.Letter{Kind: 2, Guest: a.A, Box: b})
		}
		is = true
	case 15:
		is = g.State != 4
		*g = wantShut(*g)
	}
	return is
}

// wantOnTheWay is what becomes of a Letter that is there.
func wantOnTheWay(w *impl.World, a impl.Act) bool {
	l := w.Way[a.A]
	if a.Kind == 11 {
		w.Way = append(w.Way, l)
		return true
	}
	if a.Kind == 12 {
		w.Way[a.A] = wantSpoilt(l)
		return true
	}
	w.Way = slices.Delete(w.Way, int(a.A), int(a.A)+1)
	toHouse := a.B >= 0 && a.B < int64(len(w.Inns))
	toGuest := a.B >= 0 && a.B < int64(len(w.Guests))
	switch {
	case a.Kind == 10:
		return true
	case a.Kind == 7 && l.Kind == 1 && toHouse:
		n, answer, is := wantGreet(w.Inns[a.B], w.Secret, l.Hello, w.Now, a.C, w.Last+1)
		if is {
			w.Inns[a.B], w.Last = n, w.Last+1
			w.Way = append(w.Way, impl.Letter{Kind: 3, Guest: l.Guest, Answer: answer})
		}
		return true
	case a.Kind == 8 && l.Kind == 2 && toHouse && a.C >= 0 && a.C < int64(len(w.Inns[a.B].Seats)):
		w.Inns[a.B], _ = wantHand(w.Inns[a.B], a.C, l.Box)
		return true
	case a.Kind == 9 && l.Kind == 3 && toGuest:
		g, h, _ := wantHear(w.Guests[a.B], l.Answer, w.Now)
		w.Guests[a.B] = g
		if h.Again {
			w.Way = append(w.Way, impl.Letter{Kind: 1, Guest: a.B, Hello: h})
		}
		return true
	}
	return false
}

func wantSpoilt(l impl.Letter) impl.Letter {
	switch l.Kind {
	case 1:
		if l.Hello.Seal != noBox {
			l.Hello.Seal.Spoilt, l.Hello.Bind.Spoilt = true, true
		}
	case 2:
		l.Box.Spoilt = true
	case 3:
		if l.Answer.Pick != 4 {
			l.Answer.Fin.Spoilt = true
		}
	}
	return l
}

func wantPlay(w impl.World, list []impl.Act) impl.World {
	if !worldIsRight(w) || len(list) > 300 {
		return noWorld
	}
	for _, a := range list {
		w, _ = wantHappen(w, a)
	}
	return w
}

func wantShowAct(a impl.Act) string {
	switch a.Kind {
	case 1:
		return "invite"
	case 2:
		return fmt.Sprintf("token %d %d", a.A, a.B)
	case 3, 4:
		if !textIsRight(a.Text) {
			return ""
		}
		return fmt.Sprintf("%s %d %s", []string{"early", "say"}[a.Kind-3], a.A, a.Text)
	case 5:
		return fmt.Sprintf("offer %d %d", a.A, a.B)
	case 6:
		return fmt.Sprintf("send %d", a.A)
	case 7:
		return fmt.Sprintf("greet %d %d %d", a.A, a.B, a.C)
	case 8:
		return fmt.Sprintf("hand %d %d %d", a.A, a.B, a.C)
	case 9:
		return fmt.Sprintf("hear %d %d", a.A, a.B)
	case 10, 11, 12, 13, 14, 15:
		return fmt.Sprintf("%s %d", []string{"lose", "twice", "spoil", "tick", "fall", "shut"}[a.Kind-10], a.A)
	}
	return ""
}

// actPattern has a row's word, then a group for each number, and one for the text.
var actPatterns = func() []*regexp.Regexp {
	var list []*regexp.Regexp
	for _, row := range actRows {
		pattern := "^" + row.word + strings.Repeat(" (0|-?[1-9][0-9]{0,8})", row.numbers)
		if row.text {
			pattern += " ([a-z0-9]{1,12})"
		}
		list = append(list, regexp.MustCompile(pattern+"$"))
	}
	return list
}()

func wantReadAct(s string) (impl.Act, bool) {
	for i, row := range actRows {
		groups := actPatterns[i].FindStringSubmatch(s)
		if groups == nil {
			continue
		}
		a := impl.Act{Kind: row.kind}
		for j, to := range []*int64{&a.A, &a.B, &a.C}[:row.numbers] {
			*to, _ = strconv.ParseInt(groups[1+j], 10, 64)
		}
		if row.text {
			a.Text = groups[1+row.numbers]
		}
		return a, true
	}
	return noAct, false
}

// checkHappen wants what the model wants; what is refused changes nothing.
func checkHappen(t *testing.T, name string, w impl.World, a impl.Act) (impl.World, bool) {
	t.Helper()
	want, right := wantHappen(w, a)
	got, is := impl.Happen(w, a)
	checkWorld(t, fmt.Sprintf("%s, Happen(%v)", name, a), w, got, want, is, right)
	if !is && worldIsRight(w) && !sameWorld(got, w) {
		t.Fatalf("%s: Happen(%v) is refused, but of %v it makes %v", name, a, w, got)
	}
	return got, is
}

func checkPlay(t *testing.T, name string, w impl.World, list []impl.Act) impl.World {
	t.Helper()
	want, got := wantPlay(w, list), impl.Play(w, list)
	if !sameWorld(got, want) || worldIsRight(w) && len(list) <= 300 && !impl.WorldOk(got) {
		t.Fatalf("%s: of %v: Play(%v) = %v, not %v", name, w, list, got, want)
	}
	return got
}

func checkShowAct(t *testing.T, name string, a impl.Act) string {
	t.Helper()
	got := impl.ShowAct(a)
	if want := wantShowAct(a); got != want {
		t.Fatalf("%s: ShowAct(%v) = %q, not %q", name, a, got, want)
	}
	return got
}

// checkReadAct wants what the model wants, and of an act the very text that it was read from.
func checkReadAct(t *testing.T, name, s string) (impl.Act, bool) {
	t.Helper()
	want, right := wantReadAct(s)
	got, is := impl.ReadAct(s)
	if got != want || is != right {
		t.Fatalf("%s: ReadAct(%q) = %v, %v, not %v, %v", name, s, got, is, want, right)
	}
	if is && impl.ShowAct(got) != s {
		t.Fatalf("%s: ReadAct(%q) = %v, which is shown as %q", name, s, got, impl.ShowAct(got))
	}
	return got, is
}

func mustAct(t *testing.T, line string) impl.Act {
	t.Helper()
	a, is := impl.ReadAct(line)
	if !is {
		t.Fatalf("%q is no act", line)
	}
	return a
}

// played does each of these acts, none of which may be refused.
func played(t *testing.T, w impl.World, lines ...string) impl.World {
	t.Helper()
	for _, line := range lines {
		next, is := checkHappen(t, "played", w, mustAct(t, line))
		if !is {
			t.Fatalf("%s of %v is refused", line, w)
		}
		w = next
	}
	return w
}

// actCase is one act in a World, and what it changes there; without a change it is refused.
type actCase struct {
	name   string
	world  impl.World
	act    impl.Act
	change func(w *impl.World)
}

// check wants the same, too, whatever stands in what the Kind does not tell, and of Play of that act alone.
func (c actCase) check(t *testing.T) {
	t.Helper()
	want := cloneWorld(c.world)
	if c.change != nil {
		c.change(&want)
	}
	for _, a := range withUntold(c.act) {
		got, is := impl.Happen(c.world, a)
		if !sameWorld(got, want) || is != (c.change != nil) || !impl.WorldOk(got) {
			t.Errorf("%s: of %v: Happen(%v) = %v, %v, not %v", c.name, c.world, a, got, is, want)
		}
	}
	if got := impl.Play(c.world, []impl.Act{c.act}); !sameWorld(got, want) {
		t.Errorf("%s: of %v: Play of %v alone = %v, not %v", c.name, c.world, c.act, got, want)
	}
	checkHappen(t, c.name+", the model", c.world, c.act)
}

// quietWorld has two houses, Now 90, and no one and nothing else, but for what the change brings.
func quietWorld(change func(w *impl.World)) impl.World {
	w := impl.World{Secret: 1, Now: 90, Last: 50, Inns: make([]impl.Inn, 2)}
	change(&w)
	return w
}

// inWorldOf are the Guests, each at its place, of draws from 2 on.
func inWorldOf(guests ...impl.Guest) impl.World {
	return quietWorld(func(w *impl.World) {
		for i, g := range guests {
			w.Guests = append(w.Guests, changedGuest(g, fit(func(g *impl.Guest) { g.Draw = int64(2 + i) })))
		}
	})
}

func helloLetter(guest int64, h impl.Hello) impl.Letter {
	return impl.Letter{Kind: impl.LtHello, Guest: guest, Hello: h}
}

func boxLetter(guest int64, b impl.Box) impl.Letter {
	return impl.Letter{Kind: impl.LtBox, Guest: guest, Box: b}
}

func answerLetter(guest int64, a impl.Answer) impl.Letter {
	return impl.Letter{Kind: impl.LtAnswer, Guest: guest, Answer: a}
}

func TestScriptConstants(t *testing.T) {
	got := []int64{
		impl.AcInvite, impl.AcToken, impl.AcEarly, impl.AcSay, impl.AcOffer, impl.AcSend, impl.AcGreet, impl.AcHand, impl.AcHear,
		impl.AcLose, impl.AcTwice, impl.AcSpoil, impl.AcTick, impl.AcFall, impl.AcShut,
	}
	for i, n := range got {
		if n != int64(i+1) {
			t.Fatalf("%d", got)
		}
	}
}

// TestHappenOfNoKind: nothing happens, whatever else the act has.
func TestHappenOfNoKind(t *testing.T) {
	for _, w := range worldBases(t) {
		for _, kind := range wrongKinds {
			for _, a := range []impl.Act{{}, {A: 1}, {A: 5, B: 5, C: 5, Text: "hay"}, {A: -1, B: -1, C: -1}, {Text: "hay"}} {
				a.Kind = kind
				actCase{"no kind", w, a, nil}.check(t)
			}
		}
	}
}

// TestHappenInWrongWorlds: the zero World and false, whatever the act.
func TestHappenInWrongWorlds(t *testing.T) {
	acts := []impl.Act{noAct, {Kind: 16}}
	for _, row := range actRows {
		acts = append(acts, impl.Act{Kind: row.kind, A: 1, Text: "hay"}, impl.Act{Kind: row.kind, Text: "hay"}, impl.Act{Kind: row.kind, A: -1})
	}
	for _, w := range wrongWorlds(t) {
		for _, a := range acts {
			if got, is := impl.Happen(w, a); is || !sameWorld(got, noWorld) {
				t.Fatalf("of %v: Happen(%v) = %v, %v", w, a, got, is)
			}
		}
		for _, list := range [][]impl.Act{nil, acts[:1], acts, slices.Repeat(acts, 7)} {
			if got := impl.Play(w, list); !sameWorld(got, noWorld) {
				t.Fatalf("of %v: Play of %d acts = %v", w, len(list), got)
			}
		}
	}
}

// placesAround are below, at and past the places of so many.
func placesAround(count int) []int64 {
	n := int64(count)
	return []int64{math.MinInt64, -n - 1, -1, 0, 1, n / 2, n - 1, n, n + 1, 60, 61, 1 << 32, 1<<32 + n - 1, math.MaxInt64}
}

// checkPlaces wants the act to be done at each place there is, and at no other one.
func checkPlaces(t *testing.T, name string, count int, w impl.World, at func(place int64) impl.Act) {
	t.Helper()
	for _, place := range placesAround(count) {
		a := at(place)
		if _, is := checkHappen(t, name, w, a); is != (place >= 0 && place < int64(count)) {
			t.Errorf("%s, %d of %d: of %v: Happen(%v) is %v", name, place, count, w, a, is)
		}
	}
}

func TestHappenOfEachGuest(t *testing.T) {
	for count := range 7 {
		w := quietWorld(func(w *impl.World) {
			for i := range count {
				w.Guests = append(w.Guests, mustGuest(t, int64(2+i)))
			}
			w.Purse = tokensFrom(t, 11, 2)
		})
		for _, kind := range []int64{impl.AcEarly, impl.AcSay, impl.AcOffer, impl.AcSend, impl.AcShut} {
			checkPlaces(t, "guest", count, w, func(place int64) impl.Act { return impl.Act{Kind: kind, A: place, B: 1, Text: "hay"} })
		}
		if count > 0 {
			w.Way = []impl.Letter{answerLetter(0, mustAnswer(t, 2, 40, impl.PkFull, 0))}
			checkPlaces(t, "hears", count, w, func(place int64) impl.Act { return impl.Act{Kind: impl.AcHear, B: place} })
		}
	}
}

func TestHappenOfEachHouse(t *testing.T) {
	for count := 1; count <= 3; count++ {
		w := mustWorld(t, int64(count))
		w.Guests, w.Last = []impl.Guest{mustGuest(t, 2)}, 50
		checkPlaces(t, "falls", count, w, func(place int64) impl.Act { return impl.Act{Kind: impl.AcFall, A: place} })
		w.Way = []impl.Letter{helloLetter(0, mustGreet(t, 2, false))}
		for _, wish := range rightWishes {
			checkPlaces(t, "greets", count, w, func(place int64) impl.Act { return impl.Act{Kind: impl.AcGreet, B: place, C: wish} })
		}
		for i := range w.Inns {
			w.Inns[i].Seats = seatsLike(1)
		}
		w.Way = []impl.Letter{boxLetter(0, mustLock(t, impl.EarlyKey(5, 2), 0, "hay"))}
		checkPlaces(t, "hands", count, w, func(place int64) impl.Act { return impl.Act{Kind: impl.AcHand, B: place} })
	}
}

// TestHappenOfEachSeat: the seats of the other house are none of this one.
func TestHappenOfEachSeat(t *testing.T) {
	for count := range 9 {
		for house := range int64(2) {
			w := quietWorld(func(w *impl.World) {
				w.Guests = []impl.Guest{mustGuest(t, 2)}
				w.Inns[house].Seats, w.Inns[1-house].Seats = seatsLike(count), seatsLike(8-count)
				w.Way = []impl.Letter{boxLetter(0, mustLock(t, impl.EarlyKey(5, 2), 0, "hay"))}
			})
			checkPlaces(t, "seat", count, w, func(place int64) impl.Act { return impl.Act{Kind: impl.AcHand, B: house, C: place} })
		}
	}
}

func TestHappenOfEachLetter(t *testing.T) {
	letters := []impl.Letter{
		helloLetter(1, mustGreet(t, 3, false)), boxLetter(1, mustLock(t, impl.EarlyKey(5, 3), 0, "hay")),
		answerLetter(1, mustAnswer(t, 3, 40, impl.PkFull, 0)),
	}
	wanted := map[int64]int64{impl.AcGreet: impl.LtHello, impl.AcHand: impl.LtBox, impl.AcHear: impl.LtAnswer}
	for _, count := range []int{0, 1, 2, 3, 58, 59, 60} {
		for _, l := range letters {
			w := quietWorld(func(w *impl.World) {
				w.Guests = []impl.Guest{mustGuest(t, 2), mustGuest(t, 3)}
				w.Inns[0].Seats = seatsLike(2)
				w.Way = slices.Repeat([]impl.Letter{l}, count)
			})
			for kind := int64(impl.AcGreet); kind <= impl.AcSpoil; kind++ {
				there := count
				if want, wants := wanted[kind]; wants && want != l.Kind || kind == impl.AcTwice && count == 60 {
					there = 0
				}
				for _, place := range placesAround(count) {
					a := impl.Act{Kind: kind, A: place}
					if _, is := checkHappen(t, "letter", w, a); is != (place >= 0 && place < int64(there)) {
						t.Errorf("%d of %d letters of kind %d: Happen(%v) is %v", place, count, l.Kind, a, is)
					}
				}
			}
		}
	}
}

func TestHappenInvites(t *testing.T) {
	for _, c := range []struct {
		name   string
		guests int
		last   int64
		want   int64
	}{
		{"nobody yet", 0, 50, 51},
		{"one yet", 1, 50, 51},
		{"room for one", 5, 50, 51},
		{"no room", 6, 50, 0},
		{"Last 0", 0, 0, 1},
		{"one draw more", 5, 99999, 100000},
		{"one draw more, no room", 6, 99999, 0},
		{"no draw more", 0, 100000, 0},
		{"no draw more, room for one", 5, 100000, 0},
	} {
		w := quietWorld(func(w *impl.World) {
			w.Guests, w.Last = guestsAt(t, c.guests, 3, 2), c.last
			w.Purse = tokensFrom(t, 11, 3)
			w.Way = lettersLike(t, min(60, c.guests*15), max(c.guests, 1))
		})
		var change func(w *impl.World)
		if c.want != 0 {
			change = func(w *impl.World) {
				w.Last = c.want
				w.Guests = append(w.Guests, mustGuest(t, c.want))
			}
		}
		actCase{c.name, w, impl.Act{Kind: impl.AcInvite}, change}.check(t)
	}
}

func TestHappenTokens(t *testing.T) {
	for _, c := range []struct {
		name             string
		tokens           int
		last, life, most int64
		is               bool
	}{
		{"the first one", 0, 50, 100, 20, true},
		{"room for one", 5, 50, 100, 20, true},
		{"no room: the first one goes", 6, 50, 100, 20, true},
		{"one draw more", 2, 99999, 100, 20, true},
		{"one draw more, no room", 6, 99999, 100, 20, true},
		{"no draw more", 2, 100000, 100, 20, false},
		{"no draw more, none yet", 0, 100000, 100, 20, false},
		{"life below 0", 2, 50, -1, 20, false},
		{"life 0", 2, 50, 0, 20, false},
		{"life 1", 2, 50, 1, 20, true},
		{"life MaxLife", 2, 50, 1000, 20, true},
		{"life past MaxLife", 2, 50, 1001, 20, false},
		{"most below 0", 2, 50, 100, -1, false},
		{"most 0", 2, 50, 100, 0, true},
		{"most 100", 2, 50, 100, 100, true},
		{"most past 100", 2, 50, 100, 101, false},
		{"life and most the other way round", 2, 50, 20, 100, true},
		{"life and most at their ends", 6, 50, 1000, 100, true},
		{"both wrong", 6, 50, 0, 101, false},
		{"the least int64", 6, 50, math.MinInt64, math.MinInt64, false},
		{"the largest int64", 6, 50, math.MaxInt64, math.MaxInt64, false},
	} {
		w := quietWorld(func(w *impl.World) { w.Purse, w.Last = tokensFrom(t, 11, c.tokens), c.last })
		var change func(w *impl.World)
		if c.is {
			change = func(w *impl.World) {
				w.Last++
				w.Purse = append(w.Purse[c.tokens/6:], mustToken(t, 1, w.Last, 90, c.life, c.most))
			}
		}
		actCase{c.name, w, impl.Act{Kind: impl.AcToken, A: c.life, B: c.most}, change}.check(t)
	}
}

// TestHappenSays: of a guest in each State, at the first, a middle and the last place, each text, with room and without.
func TestHappenSays(t *testing.T) {
	for _, b := range guestBases(t) {
		for _, size := range [][2]int{{0, 0}, {3, 0}, {19, 0}, {20, 0}, {3, 2}, {0, 19}, {19, 20}, {20, 20}} {
			w := inWorldOf(mustGuest(t, 9), mustGuest(t, 9), mustGuest(t, 9))
			for at := range w.Guests {
				w := cloneWorld(w)
				w.Guests[at] = changedGuest(b.guest, fit(func(g *impl.Guest) {
					g.Draw, g.Early, g.Words, g.Ahead, g.Sent = 7, numbered(size[0]), numbered(size[1]), 0, 0
				}))
				for _, s := range slices.Concat(rightTexts, wrongTexts) {
					name := fmt.Sprintf("%s with %v, %q", b.letter, size, s)
					var early, say func(w *impl.World)
					if textIsRight(s) && strings.Contains("natogh", b.letter) && size[0] < 20 && size[1] == 0 {
						early = func(w *impl.World) { w.Guests[at].Early = append(w.Guests[at].Early, s) }
					}
					if textIsRight(s) && !strings.Contains("sS123", b.letter) && size[1] < 20 {
						say = func(w *impl.World) { w.Guests[at].Words = append(w.Guests[at].Words, s) }
					}
					if at == 1 {
						actCase{name, w, impl.Act{Kind: impl.AcEarly, A: int64(at), Text: s}, early}.check(t)
						actCase{name, w, impl.Act{Kind: impl.AcSay, A: int64(at), Text: s}, say}.check(t)
					}
					checkHappen(t, name, w, impl.Act{Kind: impl.AcEarly, A: int64(at), Text: s})
					checkHappen(t, name, w, impl.Act{Kind: impl.AcSay, A: int64(at), Text: s})
				}
			}
		}
	}
}

// offered is what becomes of a new Guest of draw 3 at place 1 that offers at 90, with that token or none.
func offered(purse []impl.Token, k impl.Token, early bool, h impl.Hello) func(w *impl.World) {
	return func(w *impl.World) {
		w.Purse = purse
		w.Guests[1] = changedGuest(w.Guests[1], fit(func(g *impl.Guest) { g.State, g.Token, g.Offers = impl.GuAsks, k, early }))
		w.Way = append(w.Way, helloLetter(1, h))
	}
}

func TestHappenOffers(t *testing.T) {
	fresh, other := mustToken(t, 1, 5, 70, 100, 20), mustToken(t, 1, 6, 80, 10, 7)
	old, young := mustToken(t, 1, 7, 70, 19, 20), mustToken(t, 1, 8, 91, 100, 20)
	spoilt := fresh
	spoilt.Seal = impl.Spoil(spoilt.Seal)
	abroad := mustToken(t, 2, 9, 70, 100, 20)
	list := func(tokens ...impl.Token) []impl.Token { return tokens }
	for _, c := range []struct {
		name  string
		purse []impl.Token
		// The Token that is Spent, or the zero Token, and the purse behind that.
		spent impl.Token
		left  []impl.Token
	}{
		{"an empty purse", nil, noToken, nil},
		{"one that is fresh", list(fresh), fresh, nil},
		{"one that is fresh for the last time", list(other), other, nil},
		{"one that is too old", list(old), noToken, list(old)},
		{"one that is too young", list(young), noToken, list(young)},
		{"a spoilt one", list(spoilt), spoilt, nil},
		{"one of another inn", list(abroad), abroad, nil},
		{"two that are fresh", list(fresh, other), other, list(fresh)},
		{"two that are fresh, turned", list(other, fresh), fresh, list(other)},
		{"none of two is fresh", list(old, young), noToken, list(old, young)},
		{"the first one is fresh", list(fresh, old, young), fresh, list(old, young)},
		{"the middle one is fresh", list(old, fresh, young), fresh, list(old, young)},
		{"the last one is fresh", list(old, young, fresh), fresh, list(old, young)},
		{"several are fresh", list(fresh, old, other, abroad, young), abroad, list(fresh, old, other, young)},
		{"a full purse", tokensFrom(t, 80, 6), noToken, tokensFrom(t, 80, 6)},
	} {
		for _, way := range []int{0, 1, 7, 58, 59, 60} {
			w := inWorldOf(mustGuest(t, 9), baseOf(t, "n"), mustGuest(t, 9))
			w.Purse, w.Way = c.purse, lettersLike(t, way, 3)
			for _, b := range []int64{math.MinInt64, -1, 0, 1, 2, 3, 1 << 32, 1<<32 + 1, math.MaxInt64} {
				h, early := impl.Hello{Draw: 3}, b == 1 && c.spent != noToken
				if c.spent != noToken {
					h.Seal, h.Age, h.Early = c.spent.Seal, 90-c.spent.Born, early
					h.Bind = bindOf(c.spent.Secret, 3, false, h.Age, early)
				}
				var change func(w *impl.World)
				if (b == 0 || b == 1) && way < 60 {
					change = offered(c.left, c.spent, early, h)
				}
				actCase{fmt.Sprintf("%s, %d on the way, B %d", c.name, way, b), w, impl.Act{Kind: impl.AcOffer, A: 1, B: b}, change}.check(t)
			}
		}
	}
}

// TestHappenOffersOnce: who is not new any more spends no token.
func TestHappenOffersOnce(t *testing.T) {
	for _, b := range guestBases(t) {
		w := inWorldOf(b.guest)
		w.Purse = []impl.Token{mustToken(t, 1, 11, 70, 100, 20)}
		for early := range int64(2) {
			a := impl.Act{Kind: impl.AcOffer, B: early}
			if b.letter == "n" {
				if got, is := checkHappen(t, "new", w, a); !is || len(got.Purse) != 0 || len(got.Way) != 1 {
					t.Errorf("of %v: Happen(%v) = %v, %v", w, a, got, is)
				}
				continue
			}
			actCase{"not new: " + b.letter, w, a, nil}.check(t)
		}
	}
}

// sendCase is a Guest that sends these texts, from that number on, by its Row; ahead or behind is what it has sent then.
type sendCase struct {
	name        string
	guest       impl.Guest
	first       int64
	texts       []string
	ahead, sent int64
}

func TestHappenSends(t *testing.T) {
	ab, de := []string{"a", "b"}, []string{"d", "e"}
	cases := []sendCase{
		{"early words wait", asksWith(t, ab, 20, 0), 0, ab, 2, 0},
		{"one of them was sent", asksWith(t, ab, 20, 1), 1, []string{"b"}, 2, 0},
		{"they were sent", asksWith(t, ab, 20, 2), 0, nil, 2, 0},
		{"there is room for one", asksWith(t, ab, 1, 0), 0, []string{"a"}, 1, 0},
		{"there is room for none", asksWith(t, ab, 0, 0), 0, nil, 0, 0},
		{"there are none", asksWith(t, nil, 20, 0), 0, nil, 0, 0},
		{"ahead of the end", doneGuest(t, impl.PkFull, ab, de, 0, 0), 0, []string{"end0", "a", "b", "d", "e"}, 0, 5},
		{"ahead of the end, of PkToken", doneGuest(t, impl.PkToken, ab, de, 0, 0), 0, []string{"end0", "a", "b", "d", "e"}, 0, 5},
		{"ahead of the end, early words went", doneGuest(t, impl.PkEarly, ab, de, 2, 0), 0, []string{"end2", "d", "e"}, 2, 3},
		{"ahead of the end, one of them went", doneGuest(t, impl.PkEarly, ab, de, 1, 0), 0, []string{"end1", "b", "d", "e"}, 1, 4},
		{"ahead of the end, nothing was said", doneGuest(t, impl.PkFull, nil, nil, 0, 0), 0, []string{"end0"}, 0, 1},
		{"behind the end", doneGuest(t, impl.PkFull, ab, de, 0, 1), 1, []string{"a", "b", "d", "e"}, 0, 5},
		{"behind the end, early words went", doneGuest(t, impl.PkEarly, ab, de, 2, 1), 1, de, 2, 3},
		{"one word is left", doneGuest(t, impl.PkEarly, ab, de, 2, 2), 2, []string{"e"}, 2, 3},
		{"nothing to send", doneGuest(t, impl.PkEarly, ab, de, 2, 3), 0, nil, 2, 3},
		{"nothing to send, of PkFull", doneGuest(t, impl.PkFull, ab, de, 0, 5), 0, nil, 0, 5},
		{"as many as there may be", doneGuest(t, impl.PkToken, numbered(20), numbered(20), 0, 0), 0,
			slices.Concat([]string{"end0"}, numbered(20), numbered(20)), 0, 41},
	}
	// These have nothing to send: they have no Row, or one by which nothing is left.
	for _, letter := range strings.Split("natghfFkKesS123", "") {
		g := baseOf(t, letter)
		if g.State == impl.GuDone {
			g.Sent = int64(1 + len(g.Early) - int(g.Ahead) + len(g.Words))
			g = withItsRow(g)
		}
		cases = append(cases, sendCase{letter, g, 0, nil, g.Ahead, g.Sent})
	}
	for _, c := range cases {
		for _, left := range []int{60, 42, 41, 40, 6, 5, 4, 3, 2, 1, 0} {
			w := inWorldOf(mustGuest(t, 9), c.guest, mustGuest(t, 9))
			w.Way = lettersLike(t, 60-left, 3)
			g := w.Guests[1]
			var change func(w *impl.World)
			if len(c.texts) <= left {
				change = func(w *impl.World) {
					w.Guests[1] = changedGuest(g, fit(func(g *impl.Guest) { g.Ahead, g.Sent = c.ahead, c.sent }))
					for _, b := range boxesIn(g.Row.Key, c.first, c.texts) {
						w.Way = append(w.Way, boxLetter(1, b))
					}
				}
			}
			actCase{fmt.Sprintf("%s, room for %d", c.name, left), w, impl.Act{Kind: impl.AcSend, A: 1}, change}.check(t)
		}
	}
}

// atPlace has the Letter at that place among others, so many in all.
func atPlace(t *testing.T, w impl.World, l impl.Letter, place, count int) impl.World {
	t.Helper()
	return changedWorld(w, func(w *impl.World) {
		w.Way = lettersLike(t, count, len(w.Guests))
		w.Way[place] = l
	})
}

// someWays are a place, and how many there are.
var someWays = [][2]int{{0, 1}, {0, 2}, {1, 2}, {3, 7}, {0, 58}, {57, 58}, {0, 59}, {58, 59}, {0, 60}, {30, 60}, {59, 60}}

func TestHappenGreets(t *testing.T) {
	k := mustToken(t, 1, 5, 70, 100, 20)
	first := mustGreetWith(t, 9, false, k, true, 90)
	full := impl.Inn{Memory: impl.Memory{Seen: []int64{7}, Since: 3}, Seats: seatsLike(8)}
	some := impl.Inn{Memory: impl.Memory{Seen: []int64{7}, Since: 3}, Seats: seatsLike(3)}
	last := impl.Inn{Memory: impl.Memory{Seen: []int64{7}, Since: 3}, Seats: seatsLike(7)}
	for _, c := range []struct {
		name  string
		house impl.Inn
		hello impl.Hello
		want  byWish
	}{
		{"early", noInn, first, pickedEarly},
		{"early, others were there", some, first, pickedEarly},
		{"early, one Seat is left", last, first, pickedEarly},
		{"early, no Seat is left", full, first, byWish{0, 0, 0, impl.PkAgain}},
		{"early, it had that greeting", impl.Inn{Memory: impl.Memory{Seen: []int64{7, 9}}, Seats: seatsLike(3)}, first, pickedToken},
		{"early, it fell not long ago", impl.Inn{Memory: impl.Memory{Since: 29}}, first, pickedToken},
		{"early, it fell long ago", impl.Inn{Memory: impl.Memory{Since: 28}}, first, pickedEarly},
		{"early, it has no room to remember", impl.Inn{Memory: impl.Memory{Seen: drawsFrom(25, 6)}}, first, pickedToken},
		{"early, too late", noInn, mustGreetWith(t, 9, false, mustToken(t, 1, 5, 10, 100, 20), true, 59), pickedToken},
		{"not early", some, mustGreetWith(t, 9, false, k, false, 90), pickedToken},
		{"again", some, mustGreetWith(t, 9, true, k, false, 90), againToken},
		{"again, no Seat is left", full, mustGreetWith(t, 9, true, k, false, 90), pickedNothing},
		{"without a token", some, mustGreet(t, 9, false), pickedFull},
		{"without a token, again", some, mustGreet(t, 9, true), againFull},
		{"a token of another inn", some, mustGreetWith(t, 9, false, mustToken(t, 2, 5, 70, 100, 20), true, 90), pickedFull},
		{"a token that is too old", some, mustGreetWith(t, 9, false, mustToken(t, 1, 5, 70, 19, 20), true, 80), pickedFull},
		{"spoilt", some, changedHello(first, func(h *impl.Hello) { h.Seal, h.Bind = impl.Spoil(h.Seal), impl.Spoil(h.Bind) }), pickedFull},
	} {
		for i, way := range someWays {
			house := int64(i % 2)
			w := inWorldOf(mustGuest(t, 9), baseOf(t, "n"), mustGuest(t, 9))
			w.Inns[house], w.Inns[1-house] = c.house, some
			w.Last = []int64{50, 99999, 100000, 4}[i%4]
			w = atPlace(t, w, helloLetter(1, c.hello), way[0], way[1])
			for _, wish := range append(slices.Clone(wrongWishes), rightWishes...) {
				pick := int64(0)
				if wish >= 0 && wish <= 3 && w.Last != 100000 {
					pick = c.want[wish]
				}
				change := func(w *impl.World) {
					w.Way = slices.Delete(w.Way, way[0], way[0]+1)
					if pick == 0 {
						return
					}
					w.Last++
					n, a := greetCase{house: c.house, hello: c.hello, draw: w.Last}.wanted(pick)
					w.Inns[house] = n
					w.Way = append(w.Way, answerLetter(1, a))
				}
				name := fmt.Sprintf("%s, at %v, wish %d", c.name, way, wish)
				actCase{name, w, impl.Act{Kind: impl.AcGreet, A: int64(way[0]), B: house, C: wish}, change}.check(t)
			}
		}
	}
}

// TestHappenGreetsBySecret: a token is of the inn of that Secret alone.
func TestHappenGreetsBySecret(t *testing.T) {
	for _, secret := range []int64{1, 2, 99999, 100000} {
		for _, of := range []int64{1, 2, 99999, 100000} {
			w := inWorldOf(mustGuest(t, 9))
			w.Secret = secret
			w.Way = []impl.Letter{helloLetter(0, mustGreetWith(t, 2, false, mustToken(t, of, 5, 70, 100, 20), true, 90))}
			got, is := checkHappen(t, "by secret", w, impl.Act{Kind: impl.AcGreet})
			if pick := got.Way[0].Answer.Pick; !is || (pick == impl.PkEarly) != (secret == of) || (pick == impl.PkFull) != (secret != of) {
				t.Fatalf("of %v: %v, %v", w, got, is)
			}
		}
	}
}

// TestHappenGreetsTwice: one house picks early words of it once; the other one, which does not know of that, once more.
func TestHappenGreetsTwice(t *testing.T) {
	w := mustWorld(t, 3)
	w = played(t, w, "tick 62", "token 200 20", "invite", "early 0 hay", "offer 0 1", "twice 0", "twice 0", "twice 0", "twice 0")
	want := []int64{impl.PkEarly, impl.PkToken, impl.PkEarly, impl.PkToken, impl.PkEarly}
	for i, house := range []int64{0, 0, 1, 1, 2} {
		w = played(t, w, fmt.Sprintf("greet 0 %d 0", house))
		a := w.Way[len(w.Way)-1]
		if len(w.Way) != 5 || a.Kind != impl.LtAnswer || a.Guest != 0 || a.Answer.Pick != want[i] || a.Answer.Draw != int64(4+i) || w.Last != int64(4+i) {
			t.Fatalf("greeted time %d: %v", i, w)
		}
	}
	for i, n := range w.Inns {
		if len(n.Seats) != []int{2, 2, 1}[i] || !slices.Equal(n.Memory.Seen, []int64{3}) {
			t.Fatalf("house %d is %v", i, n)
		}
	}
}

func TestHappenHands(t *testing.T) {
	two := wordsLike("a*", "b*")
	early, forth := impl.EarlyKey(5, 9), impl.ForthKey(5, 9, 12)
	for _, c := range []hearCase{
		{"the next early one", seatOf(t, "e", 2, 0, two), impl.Box{Key: early, No: 2, Text: "c"}, impl.HeEarly},
		{"a later early one", seatOf(t, "e", 2, 0, two), impl.Box{Key: early, No: 3, Text: "c"}, impl.HeNone},
		{"an early one that was heard", seatOf(t, "e", 2, 0, two), impl.Box{Key: early, No: 1, Text: "b"}, impl.HeNone},
		{"a spoilt early one", seatOf(t, "e", 2, 0, two), impl.Box{Key: early, No: 2, Text: "c", Spoilt: true}, impl.HeNone},
		{"an early one of another Seat", seatOf(t, "e", 2, 0, two), impl.Box{Key: impl.EarlyKey(5, 10), No: 2, Text: "c"}, impl.HeNone},
		{"an early one, to who is of PkToken", seatOf(t, "k", 0, 0, nil), impl.Box{Key: early, Text: "a"}, impl.HeNone},
		{"an early one, behind the end", seatOf(t, "E", 0, 1, two), impl.Box{Key: early, No: 2, Text: "c"}, impl.HeNone},
		{"the end", seatOf(t, "e", 2, 0, two), impl.Box{Key: forth, Text: "end2"}, impl.HeEnd},
		{"another end", seatOf(t, "e", 2, 0, two), impl.Box{Key: forth, Text: "end1"}, impl.HeNone},
		{"the end, of PkFull", seatOf(t, "f", 0, 0, nil), impl.Box{Key: impl.ForthKey(0, 9, 12), Text: "end0"}, impl.HeEnd},
		{"the end twice", seatOf(t, "E", 0, 1, two), impl.Box{Key: forth, Text: "end2"}, impl.HeNone},
		{"a spoilt end", seatOf(t, "e", 2, 0, two), impl.Box{Key: forth, Text: "end2", Spoilt: true}, impl.HeNone},
		{"the next one", seatOf(t, "E", 0, 1, two), impl.Box{Key: forth, No: 1, Text: "c"}, impl.HeWord},
		{"a later one", seatOf(t, "E", 0, 1, two), impl.Box{Key: forth, No: 2, Text: "c"}, impl.HeNone},
		{"one that was heard", seatOf(t, "E", 0, 3, two), impl.Box{Key: forth, No: 2, Text: "c"}, impl.HeNone},
		{"a spoilt one", seatOf(t, "E", 0, 1, two), impl.Box{Key: forth, No: 1, Text: "c", Spoilt: true}, impl.HeNone},
		{"one of another Seat", seatOf(t, "E", 0, 1, two), impl.Box{Key: impl.ForthKey(5, 9, 13), No: 1, Text: "c"}, impl.HeNone},
		{"no room", seatOf(t, "E", 0, 1, manyWords(20, 40)), impl.Box{Key: forth, No: 1, Text: "c"}, impl.HeNone},
	} {
		c.check(t)
		for i, way := range someWays {
			house, seat := int64(i%2), int64(i%5)
			w := inWorldOf(mustGuest(t, 9), baseOf(t, "n"))
			w.Inns[0].Seats, w.Inns[1].Seats = seatsLike(5), seatsLike(8)
			w.Inns[house].Seats[seat] = c.seat
			w = atPlace(t, w, boxLetter(int64(i%2), c.box), way[0], way[1])
			a := impl.Act{Kind: impl.AcHand, A: int64(way[0]), B: house, C: seat}
			actCase{c.name, w, a, func(w *impl.World) {
				w.Way = slices.Delete(w.Way, way[0], way[0]+1)
				w.Inns[house].Seats[seat], _ = impl.Hears(c.seat, c.box)
			}}.check(t)
			// Another Seat, or that place in the other house, has no use for it, but takes it from the way all the same.
			for _, other := range []impl.Act{{B: house, C: (seat + 1) % 5}, {B: 1 - house, C: seat}} {
				other.Kind, other.A = impl.AcHand, int64(way[0])
				actCase{c.name + ", elsewhere", w, other, func(w *impl.World) { w.Way = slices.Delete(w.Way, way[0], way[0]+1) }}.check(t)
			}
		}
	}
}

func TestHappenHears(t *testing.T) {
	right := rightAnswers(t)
	spoilt := func(a impl.Answer) impl.Answer {
		return changedAnswer(a, func(a *impl.Answer) { a.Fin = impl.Spoil(a.Fin) })
	}
	for _, c := range []struct {
		name   string
		answer impl.Answer
		// The letters of the bases that hear it.
		heard string
	}{
		{"PkFull", right[0], "atogh"},
		{"PkToken", right[1], "toh"},
		{"PkEarly", right[2], "o"},
		{"PkAgain", right[3], "ato"},
		{"PkFull, spoilt", spoilt(right[0]), ""},
		{"PkToken, spoilt", spoilt(right[1]), ""},
		{"PkEarly, spoilt", spoilt(right[2]), ""},
		{"PkToken, by another secret", mustAnswer(t, 9, 12, impl.PkToken, 6), ""},
		{"PkEarly, by another secret", mustAnswer(t, 9, 12, impl.PkEarly, 6), ""},
		{"PkToken, for PkFull", changedAnswer(right[1], func(a *impl.Answer) { a.Pick = impl.PkFull }), ""},
		{"PkToken, for PkEarly", changedAnswer(right[1], func(a *impl.Answer) { a.Pick = impl.PkEarly }), ""},
		{"PkEarly, of another draw", changedAnswer(right[2], func(a *impl.Answer) { a.Draw = 13 }), ""},
		{"PkFull, to another draw", mustAnswer(t, 10, 12, impl.PkFull, 0), ""},
		{"PkToken, to another draw", mustAnswer(t, 10, 12, impl.PkToken, 5), ""},
		{"PkAgain, to another draw", mustAnswer(t, 10, 0, impl.PkAgain, 0), ""},
	} {
		for _, b := range guestBases(t) {
			for i, way := range someWays {
				now := []int64{90, 170, 171, 69}[i%4]
				w := inWorldOf(mustGuest(t, 9), mustGuest(t, 9), mustGuest(t, 9))
				w.Guests[1], w.Now = b.guest, now
				// To whom it was sent is of no matter: it comes to the one that is told.
				w = atPlace(t, w, answerLetter(int64(i%3), c.answer), way[0], way[1])
				name := fmt.Sprintf("%s, %s at %v", c.name, b.letter, way)
				heard := strings.Contains(c.heard, b.letter)
				actCase{name, w, impl.Act{Kind: impl.AcHear, A: int64(way[0]), B: 1}, func(w *impl.World) {
					w.Way = slices.Delete(w.Way, way[0], way[0]+1)
					if !heard {
						return
					}
					g, h, _ := wantHear(b.guest, c.answer, now)
					w.Guests[1] = g
					if c.answer.Pick == impl.PkAgain {
						w.Way = append(w.Way, helloLetter(1, h))
					}
				}}.check(t)
				got, is := impl.Happen(w, impl.Act{Kind: impl.AcHear, A: int64(way[0]), B: 1})
				if now := got.Guests[1].State; !is || heard && now != impl.GuDone && now != impl.GuAgain || !heard && now != b.guest.State {
					t.Errorf("%s: of %v: %v, %v", name, w, got, is)
				}
			}
		}
	}
}

// TestHappenHearsOfOthers: what is for one guest is of no use for another one, but taken from the way.
func TestHappenHearsOfOthers(t *testing.T) {
	w := played(t, mustWorld(t, 2), "invite", "invite", "offer 0 0", "offer 1 0", "greet 0 0 0", "greet 0 1 3")
	for _, c := range []struct {
		line          string
		first, second int64
		way           int
	}{
		{"hear 0 0", impl.GuDone, impl.GuAsks, 1},
		{"hear 0 1", impl.GuAsks, impl.GuAsks, 1},
		{"hear 1 0", impl.GuAsks, impl.GuAsks, 1},
		{"hear 1 1", impl.GuAsks, impl.GuAgain, 2},
	} {
		got := played(t, w, c.line)
		if got.Guests[0].State != c.first || got.Guests[1].State != c.second || len(got.Way) != c.way {
			t.Errorf("%s of %v: %v", c.line, w, got)
		}
		if l := got.Way[len(got.Way)-1]; c.way == 2 && (l != helloLetter(1, mustGreet(t, 3, true))) {
			t.Errorf("%s of %v: %v", c.line, w, got)
		}
	}
}

// lettersOfAllSorts are Letters with two Boxes, with one, with none, and each of them Spoilt already; and what AcSpoil makes of them.
func lettersOfAllSorts(t *testing.T) ([]impl.Letter, []impl.Letter) {
	t.Helper()
	k := mustToken(t, 1, 5, 70, 100, 20)
	h := mustGreetWith(t, 9, false, k, true, 90)
	sealSpoilt := changedHello(h, func(h *impl.Hello) { h.Seal.Spoilt = true })
	bindSpoilt := changedHello(h, func(h *impl.Hello) { h.Bind.Spoilt = true })
	bothSpoilt := changedHello(sealSpoilt, func(h *impl.Hello) { h.Bind.Spoilt = true })
	b := mustLock(t, impl.ForthKey(5, 9, 12), 3, "oats")
	spoiltBox := impl.Spoil(b)
	a := mustAnswer(t, 9, 12, impl.PkEarly, 5)
	spoiltAnswer := changedAnswer(a, func(a *impl.Answer) { a.Fin.Spoilt = true })
	bare, again := helloLetter(1, mustGreet(t, 9, true)), answerLetter(1, mustAnswer(t, 9, 0, impl.PkAgain, 0))
	both := helloLetter(1, bothSpoilt)
	return []impl.Letter{
		helloLetter(1, h), helloLetter(1, sealSpoilt), helloLetter(1, bindSpoilt), both, bare,
		boxLetter(1, b), boxLetter(1, spoiltBox), answerLetter(1, a), answerLetter(1, spoiltAnswer), again,
	}, []impl.Letter{
		both, both, both, both, bare,
		boxLetter(1, spoiltBox), boxLetter(1, spoiltBox), answerLetter(1, spoiltAnswer), answerLetter(1, spoiltAnswer), again,
	}
}

// TestHappenOnTheWay: a Letter of each sort at each place is lost, comes twice, or is Spoilt; all others stay in their order.
func TestHappenOnTheWay(t *testing.T) {
	letters, spoilt := lettersOfAllSorts(t)
	for i, l := range letters {
		for _, way := range append([][2]int{{0, 3}, {1, 3}, {2, 3}}, someWays...) {
			w := atPlace(t, inWorldOf(mustGuest(t, 9), baseOf(t, "n")), l, way[0], way[1])
			name, at := fmt.Sprintf("letter %d at %v", i, way), int64(way[0])
			actCase{name + ", lost", w, impl.Act{Kind: impl.AcLose, A: at}, func(w *impl.World) {
				w.Way = slices.Delete(w.Way, way[0], way[0]+1)
			}}.check(t)
			var twice func(w *impl.World)
			if way[1] < 60 {
				twice = func(w *impl.World) { w.Way = append(w.Way, l) }
			}
			actCase{name + ", twice", w, impl.Act{Kind: impl.AcTwice, A: at}, twice}.check(t)
			actCase{name + ", spoilt", w, impl.Act{Kind: impl.AcSpoil, A: at}, func(w *impl.World) {
				w.Way[way[0]] = spoilt[i]
			}}.check(t)
		}
	}
}

func TestHappenTicks(t *testing.T) {
	more := []int64{math.MinInt64, -100001, -90, -1, 0, 1, 2, 89, 90, 99909, 99910, 99911, 99999, 100000, 100001, 1 << 32, 1<<32 + 1, math.MaxInt64 - 90, math.MaxInt64}
	for _, now := range []int64{0, 1, 90, 99999, 100000} {
		for _, base := range []impl.World{mustWorld(t, 1), worldLike(t, 2, 3, 2, 7)} {
			w := changedWorld(base, func(w *impl.World) { w.Now = now })
			for _, a := range append(slices.Clone(more), 100000-now-1, 100000-now, 100000-now+1) {
				var change func(w *impl.World)
				if a >= 1 && a <= 100000 && now+a <= 100000 {
					change = func(w *impl.World) { w.Now = now + a }
				}
				actCase{fmt.Sprintf("at %d", now), w, impl.Act{Kind: impl.AcTick, A: a}, change}.check(t)
			}
		}
	}
}

// TestHappenFalls: one house alone loses its Seats and what it had Seen, whatever is on the way to it.
func TestHappenFalls(t *testing.T) {
	for _, now := range []int64{0, 1, 89, 90, 91, 99999, 100000} {
		for _, since := range []int64{0, 1, 90, 99999, 100000} {
			for houses := 1; houses <= 3; houses++ {
				for at := range houses {
					w := worldLike(t, houses, 3, 2, 7)
					w.Now = now
					w.Inns[at].Memory.Since = since
					var change func(w *impl.World)
					if now >= since {
						change = func(w *impl.World) { w.Inns[at] = impl.Inn{Memory: impl.Memory{Since: now}} }
					}
					actCase{fmt.Sprintf("house %d of %d, now %d, since %d", at, houses, now, since), w, impl.Act{Kind: impl.AcFall, A: int64(at)}, change}.check(t)
				}
			}
		}
	}
}

func TestHappenShuts(t *testing.T) {
	for _, b := range guestBases(t) {
		for at := range 3 {
			w := inWorldOf(mustGuest(t, 9), mustGuest(t, 9), mustGuest(t, 9))
			w.Guests[at], w.Way = b.guest, lettersLike(t, 7, 3)
			var change func(w *impl.World)
			if !strings.Contains("sS123", b.letter) {
				change = func(w *impl.World) { w.Guests[at].State, w.Guests[at].Row = impl.GuShut, noRow }
			}
			actCase{b.letter, w, impl.Act{Kind: impl.AcShut, A: int64(at)}, change}.check(t)
		}
	}
}

// TestHappenOfAnotherSort: a Letter that is of another Kind than the act wants does not come, and stays on the way.
func TestHappenOfAnotherSort(t *testing.T) {
	letters, _ := lettersOfAllSorts(t)
	wanted := map[int64]int64{impl.AcGreet: impl.LtHello, impl.AcHand: impl.LtBox, impl.AcHear: impl.LtAnswer}
	for i, l := range letters {
		w := worldLike(t, 2, 3, 2, 7)
		w.Way[2] = l
		for kind, want := range wanted {
			a := impl.Act{Kind: kind, A: 2, B: 1, C: 1}
			if l.Kind != want {
				actCase{fmt.Sprintf("letter %d", i), w, a, nil}.check(t)
				continue
			}
			got, is := checkHappen(t, "of that kind", w, a)
			if left := slices.Delete(slices.Clone(w.Way), 2, 3); !is || !slices.Equal(got.Way[:6], left) {
				t.Errorf("letter %d: of %v: Happen(%v) = %v, %v", i, w, a, got, is)
			}
			// Where it would come to is not there: neither does it come.
			for _, none := range []int64{math.MinInt64, -1, 3, 7, math.MaxInt64} {
				a.B = none
				actCase{fmt.Sprintf("letter %d to %d", i, none), w, a, nil}.check(t)
			}
		}
	}
}

// livedIn are Worlds in which much has happened: guests of all States, open Seats, all sorts of Letters.
func livedIn(t *testing.T) []impl.World {
	t.Helper()
	w := mustWorld(t, 2)
	w = played(t, w, "tick 62", "token 200 20", "token 200 3", "token 10 20", "invite", "invite", "invite", "invite", "invite")
	w = played(t, w, "early 0 hay", "early 0 oats", "say 0 corn", "early 1 hay", "say 2 rye", "early 3 hay", "early 3 bran", "say 3 rye")
	asked := played(t, w, "offer 0 1", "offer 1 1", "send 0", "offer 2 0", "offer 3 1", "send 3", "shut 4")
	greeted := played(t, asked, "greet 0 0 0", "greet 0 1 3", "twice 0", "hand 0 0 0", "greet 1 0 0")
	done := played(t, greeted, "hear 2 0", "hear 2 1", "send 0", "tick 11", "spoil 1", "say 0 rye")
	fallen := played(t, done, "fall 0", "invite", "token 5 5", "say 5 hay", "shut 0")
	late := changedWorld(done, func(w *impl.World) { w.Now, w.Last = 100000, 100000 })
	return []impl.World{w, asked, greeted, done, fallen, late}
}

// eachAct has acts of all Kinds: of each guest, house, seat and Letter there is, and of such as are not there.
func eachAct(w impl.World, f func(impl.Act)) {
	upto := func(count int) []int64 {
		list := []int64{math.MinInt64, -1, math.MaxInt64}
		for i := range int64(count) + 2 {
			list = append(list, i)
		}
		return list
	}
	guests, houses, letters := upto(len(w.Guests)), upto(len(w.Inns)), upto(len(w.Way))
	seats := 0
	for _, n := range w.Inns {
		seats = max(seats, len(n.Seats))
	}
	f(impl.Act{Kind: impl.AcInvite})
	for _, a := range []int64{-1, 0, 1, 100, 1000, 1001} {
		for _, b := range []int64{-1, 0, 20, 100, 101} {
			f(impl.Act{Kind: impl.AcToken, A: a, B: b})
		}
		f(impl.Act{Kind: impl.AcTick, A: a})
		f(impl.Act{Kind: impl.AcTick, A: a - w.Now + 100000})
	}
	for _, a := range guests {
		for _, s := range []string{"hay", "", "No", "zzzzzzzzzzzzz"} {
			f(impl.Act{Kind: impl.AcEarly, A: a, Text: s})
			f(impl.Act{Kind: impl.AcSay, A: a, Text: s})
		}
		for b := int64(-1); b <= 2; b++ {
			f(impl.Act{Kind: impl.AcOffer, A: a, B: b})
		}
		f(impl.Act{Kind: impl.AcSend, A: a})
		f(impl.Act{Kind: impl.AcShut, A: a})
	}
	for _, a := range letters {
		for _, b := range houses {
			for c := int64(-1); c <= 4; c++ {
				f(impl.Act{Kind: impl.AcGreet, A: a, B: b, C: c})
			}
			for _, c := range upto(seats) {
				f(impl.Act{Kind: impl.AcHand, A: a, B: b, C: c})
			}
		}
		for _, b := range guests {
			f(impl.Act{Kind: impl.AcHear, A: a, B: b})
		}
		for kind := int64(impl.AcLose); kind <= impl.AcSpoil; kind++ {
			f(impl.Act{Kind: kind, A: a})
		}
	}
	for _, a := range houses {
		f(impl.Act{Kind: impl.AcFall, A: a})
	}
}

// TestHappenOfEach: each act in each of these Worlds.
func TestHappenOfEach(t *testing.T) {
	done, refused := map[int64]int{}, map[int64]int{}
	worlds := append(livedIn(t), mustWorld(t, 1), mustWorld(t, 3), worldLike(t, 2, 3, 2, 7), worldLike(t, 3, 1, 6, 3), worldLike(t, 1, 6, 1, 5))
	for _, w := range worlds {
		eachAct(w, func(a impl.Act) {
			if _, is := checkHappen(t, "each", w, a); is {
				done[a.Kind]++
			} else {
				refused[a.Kind]++
			}
		})
	}
	for _, row := range actRows {
		least := 5
		if row.kind == impl.AcInvite {
			least = 2
		}
		if done[row.kind] < least || refused[row.kind] < least {
			t.Errorf("%s was done %d times, refused %d times", row.word, done[row.kind], refused[row.kind])
		}
	}
}

// shortActs are enough for one guest to be heard by one of two houses, or not.
var shortActs = []string{
	"early 0 hay", "say 0 oats", "offer 0 1", "send 0", "greet 0 0 0", "greet 0 1 3", "hand 0 0 0", "hear 0 0",
	"lose 0", "twice 0", "spoil 0", "tick 30", "fall 0", "shut 0", "hand 1 0 0", "token 60 20",
}

// TestAllShortWays goes all ways of up to 4 acts from where a guest may offer, and from where it offered; Play goes the same ones.
func TestAllShortWays(t *testing.T) {
	var acts []impl.Act
	for _, line := range shortActs {
		acts = append(acts, mustAct(t, line))
	}
	start := played(t, mustWorld(t, 2), "tick 62", "token 60 20", "invite")
	offering := played(t, start, "early 0 hay", "say 0 oats", "offer 0 1", "send 0")
	for _, base := range []impl.World{start, offering} {
		ways, refused := 0, 0
		var onward func(w impl.World, way []impl.Act)
		onward = func(w impl.World, way []impl.Act) {
			if len(way) == 3 && ways%7 == 0 {
				if got := impl.Play(base, way); !sameWorld(got, w) {
					t.Fatalf("Play(%v, %v) = %v, not %v", base, way, got, w)
				}
			}
			if len(way) == 4 {
				ways++
				return
			}
			for _, a := range acts {
				next, is := checkHappen(t, "short way", w, a)
				if !is {
					// All that may follow follows elsewhere, too, as nothing changed.
					refused++
					continue
				}
				onward(next, append(slices.Clone(way), a))
			}
		}
		onward(base, nil)
		if ways < 1000 || refused < 1000 {
			t.Fatalf("%d ways, refused %d times", ways, refused)
		}
	}
}

// walker takes acts by chance, most of them such as may be done.
type walker struct {
	*rand.Rand
}

// chance is one of so many from 0 on.
func (k walker) chance(n int) int64 {
	return int64(k.IntN(max(n, 1)))
}

// letterOf is the place of a Letter of that Kind, or any other place where there is none.
func (k walker) letterOf(w impl.World, kind int64) int64 {
	first := k.chance(len(w.Way))
	for i := range w.Way {
		at := (first + int64(i)) % int64(len(w.Way))
		if w.Way[at].Kind == kind {
			return at
		}
	}
	return k.chance(len(w.Way)+2) - 1
}

// seatOf is a house and a seat that the Box of that Letter may be for, or any other ones where there are none.
func (k walker) seatOf(w impl.World, letter int64) (int64, int64) {
	house := k.chance(len(w.Inns))
	if letter < 0 || letter >= int64(len(w.Way)) || k.chance(4) == 0 {
		return house, k.chance(len(w.Inns[house].Seats)+2) - 1
	}
	for range w.Inns {
		house = (house + 1) % int64(len(w.Inns))
		for j, s := range w.Inns[house].Seats {
			if key := w.Way[letter].Box.Key; key == s.Forth.Key || key == s.Early.Key {
				return house, int64(j)
			}
		}
	}
	return house, 0
}

// onward brings the first Letter to where it may be heard, or sends what waits to be sent.
func (k walker) onward(w impl.World) impl.Act {
	for i, g := range w.Guests {
		if g.State == impl.GuAsks && g.Offers && int(g.Ahead) < len(g.Early) && k.chance(2) == 0 {
			return impl.Act{Kind: impl.AcSend, A: int64(i)}
		}
	}
	if len(w.Way) == 0 {
		return k.begin(w)
	}
	switch w.Way[0].Kind {
	case impl.LtHello:
		return impl.Act{Kind: impl.AcGreet, B: k.chance(len(w.Inns))}
	case impl.LtBox:
		house, seat := k.seatOf(w, 0)
		return impl.Act{Kind: impl.AcHand, B: house, C: seat}
	}
	return impl.Act{Kind: impl.AcHear, B: w.Way[0].Guest}
}

// begin has a new guest say something, or offer.
func (k walker) begin(w impl.World) impl.Act {
	for i, g := range w.Guests {
		if g.State == impl.GuNew {
			kind := []int64{impl.AcEarly, impl.AcSay, impl.AcOffer}[k.chance(3)]
			return impl.Act{Kind: kind, A: int64(i), B: 1, Text: "rye"}
		}
	}
	return impl.Act{Kind: impl.AcInvite}
}

func (k walker) act(w impl.World) impl.Act {
	a := impl.Act{Kind: k.chance(15) + 1, Text: []string{"hay", "oats", "corn", "No"}[k.chance(4)]}
	// What ends much comes seldom, what brings on much comes often.
	ends := slices.Contains([]int64{impl.AcLose, impl.AcSpoil, impl.AcFall, impl.AcShut, impl.AcTick}, a.Kind)
	if ends && k.chance(3) != 0 || k.chance(4) == 0 {
		return k.onward(w)
	}
	guest := k.chance(len(w.Guests))
	switch a.Kind {
	case impl.AcToken:
		a.A, a.B = k.chance(300)-2, k.chance(104)-2
	case impl.AcOffer:
		a.A, a.B = guest, (k.chance(9)+1)/4
	case impl.AcGreet:
		a.A, a.B, a.C = k.letterOf(w, impl.LtHello), k.chance(len(w.Inns)), max(0, k.chance(9)-4)
	case impl.AcHand:
		a.A = k.letterOf(w, impl.LtBox)
		a.B, a.C = k.seatOf(w, a.A)
	case impl.AcHear:
		a.A, a.B = k.letterOf(w, impl.LtAnswer), guest
		if a.A >= 0 && a.A < int64(len(w.Way)) && k.chance(4) != 0 {
			a.B = w.Way[a.A].Guest
		}
	case impl.AcLose, impl.AcTwice, impl.AcSpoil:
		a.A = k.chance(len(w.Way)+2) - 1
	case impl.AcTick:
		a.A = k.chance(15) - 2
	case impl.AcFall:
		a.A = k.chance(len(w.Inns)+1) - 1
	default:
		a.A = k.chance(len(w.Guests)+1) - k.chance(2)
	}
	return a
}

// TestLongScripts: whatever happens, it is what the model wants, what is refused changes nothing, and Play does the same.
func TestLongScripts(t *testing.T) {
	done, refused, codes := map[int64]int{}, map[int64]int{}, map[string]int{}
	k := walker{rand.New(rand.NewPCG(5, 17))}
	for range 150 {
		start := mustWorld(t, 1+k.chance(3))
		start.Now = 31 * k.chance(5)
		if k.chance(4) == 0 {
			// Not many draws are left, and not much time.
			start.Last, start.Now = 99980, 99900
		}
		w := start
		var acts []impl.Act
		for range 80 {
			a := k.act(w)
			acts = append(acts, a)
			next, is := checkHappen(t, "long script", w, a)
			if is {
				done[a.Kind]++
				codes[whatCame(w, next, a)]++
			} else {
				refused[a.Kind]++
			}
			w = next
		}
		if got := impl.Play(start, acts); !sameWorld(got, w) {
			t.Fatalf("Play(%v, %v) = %v, not %v", start, acts, got, w)
		}
		for _, cut := range []int{0, 1, 40, 79} {
			if got := impl.Play(impl.Play(start, acts[:cut]), acts[cut:]); !sameWorld(got, w) {
				t.Fatalf("Play(%v, %v), first of %d, then of the rest = %v, not %v", start, acts, cut, got, w)
			}
		}
	}
	for _, row := range actRows {
		if done[row.kind] < 10 || refused[row.kind] < 10 {
			t.Errorf("%s was done %d times, refused %d times", row.word, done[row.kind], refused[row.kind])
		}
	}
	for _, code := range []string{
		"heard early", "heard end", "heard word", "heard nothing", "picked 0", "picked 1", "picked 2", "picked 3", "picked 4", "done", "again", "unheard",
	} {
		if codes[code] < 5 {
			t.Errorf("%s: %d times, of %v", code, codes[code], codes)
		}
	}
}

// whatCame tells what became of a Letter that came.
func whatCame(w, next impl.World, a impl.Act) string {
	last := impl.Letter{}
	if len(next.Way) == len(w.Way) && len(w.Way) > 0 {
		last = next.Way[len(next.Way)-1]
	}
	switch a.Kind {
	case impl.AcGreet:
		return fmt.Sprintf("picked %d", last.Answer.Pick)
	case impl.AcHand:
		was, is := w.Inns[a.B].Seats[a.C], next.Inns[a.B].Seats[a.C]
		switch {
		case len(is.Log) > len(was.Log) && is.State == impl.SeOpen:
			return "heard word"
		case len(is.Log) > len(was.Log):
			return "heard early"
		case is.State != was.State:
			return "heard end"
		}
		return "heard nothing"
	case impl.AcHear:
		switch {
		case next.Guests[a.B].State == w.Guests[a.B].State:
			return "unheard"
		case last.Hello.Again:
			return "again"
		}
		return "done"
	}
	return ""
}

// TestScriptsOfStories: what a house has heard in the end, by seats, and of whom.
func TestScriptsOfStories(t *testing.T) {
	said := []string{"tick 62", "token 200 20", "invite", "early 0 hay", "early 0 bran", "say 0 oats"}
	for _, c := range []struct {
		name  string
		lines []string
		// The Texts that each Seat of both houses heard, and the State of the guest.
		want  [2][][]string
		state int64
	}{
		{"early words are picked", []string{
			"offer 0 1", "send 0", "greet 0 0 0", "hand 0 0 0", "hand 0 0 0", "hear 0 0", "send 0", "hand 0 0 0", "hand 0 0 0",
		}, [2][][]string{{{"hay", "bran", "oats"}}}, impl.GuDone},
		{"the greeting comes twice to one house", []string{
			"offer 0 1", "send 0", "twice 0", "greet 0 0 0", "greet 2 0 0", "hand 0 0 1", "hand 0 0 0", "hear 0 0", "send 0", "hand 1 0 0", "hand 1 0 0",
		}, [2][][]string{{{}, {}}}, impl.GuDone},
		{"the greeting and the early words come to both houses", []string{
			"offer 0 1", "send 0", "twice 0", "twice 1", "twice 2", "greet 0 0 0", "greet 2 1 0",
			"hand 0 0 0", "hand 0 0 0", "hand 0 1 0", "hand 0 1 0", "hear 1 0", "send 0", "twice 1", "hand 3 0 0", "hand 1 1 0", "hand 1 1 0",
		}, [2][][]string{{{"hay", "bran"}}, {{"hay", "bran", "oats"}}}, impl.GuDone},
		{"early words come ahead of the greeting", []string{
			"offer 0 1", "send 0", "twice 0", "lose 0", "greet 2 0 0", "hand 1 0 0", "hand 0 0 0",
		}, [2][][]string{{{"hay"}}}, impl.GuAsks},
		{"a spoilt early word", []string{
			"offer 0 1", "send 0", "spoil 1", "greet 0 0 0", "hand 0 0 0", "hand 0 0 0", "hear 0 0", "send 0", "hand 0 0 0", "hand 0 0 0",
		}, [2][][]string{{{}}}, impl.GuDone},
		{"a spoilt greeting: words go behind the answer", []string{
			"offer 0 1", "send 0", "spoil 0", "greet 0 0 0", "hand 0 0 0", "hand 0 0 0", "hear 0 0", "send 0",
			"hand 0 0 0", "hand 0 0 0", "hand 0 0 0", "hand 0 0 0",
		}, [2][][]string{{{"hay", "bran", "oats"}}}, impl.GuDone},
		{"a spoilt answer", []string{
			"offer 0 1", "send 0", "greet 0 0 0", "hand 0 0 0", "hand 0 0 0", "spoil 0", "hear 0 0", "send 0",
		}, [2][][]string{{{"hay", "bran"}}}, impl.GuAsks},
		{"it asks again", []string{
			"offer 0 1", "send 0", "greet 0 0 3", "hear 2 0", "greet 2 0 1", "hear 2 0", "send 0", "lose 0", "lose 0",
			"hand 0 0 0", "hand 0 0 0", "hand 0 0 0", "hand 0 0 0",
		}, [2][][]string{{{"hay", "bran", "oats"}}}, impl.GuDone},
		{"it asks again, and the first greeting comes late", []string{
			"offer 0 1", "send 0", "twice 0", "greet 0 0 3", "hear 3 0", "greet 3 0 1", "greet 2 0 0", "hand 0 0 1", "hear 1 0", "send 0",
		}, [2][][]string{{{}, {"hay"}}}, impl.GuDone},
		{"the house fell not long ago", []string{
			"fall 0", "offer 0 1", "send 0", "greet 0 0 0", "hand 0 0 0", "hand 0 0 0", "hear 0 0", "send 0",
			"hand 0 0 0", "hand 0 0 0", "hand 0 0 0", "hand 0 0 0",
		}, [2][][]string{{{"hay", "bran", "oats"}}}, impl.GuDone},
		{"the house falls behind early words", []string{
			"offer 0 1", "send 0", "greet 0 0 0", "hand 0 0 0", "fall 0", "hear 1 0", "send 0",
		}, [2][][]string{{}}, impl.GuDone},
		{"without a token", []string{
			"tick 201", "offer 0 1", "send 0", "greet 0 1 0", "hear 0 0", "send 0", "hand 0 1 0", "hand 0 1 0", "hand 0 1 0", "hand 0 1 0",
		}, [2][][]string{nil, {{"hay", "bran", "oats"}}}, impl.GuDone},
		{"it does not offer", []string{
			"offer 0 0", "send 0", "greet 0 1 0", "hear 0 0", "send 0", "hand 0 1 0", "hand 0 1 0", "hand 0 1 0", "hand 0 1 0",
		}, [2][][]string{nil, {{"hay", "bran", "oats"}}}, impl.GuDone},
		{"an early word is lost", []string{
			"offer 0 1", "send 0", "lose 1", "greet 0 0 0", "hand 0 0 0", "hear 0 0", "send 0", "hand 0 0 0", "hand 0 0 0",
		}, [2][][]string{{{}}}, impl.GuDone},
		{"it is shut ahead of the answer", []string{
			"offer 0 1", "send 0", "greet 0 0 0", "shut 0", "hand 0 0 0", "hand 0 0 0", "hear 0 0", "send 0",
		}, [2][][]string{{{"hay", "bran"}}}, impl.GuShut},
	} {
		w := played(t, mustWorld(t, 2), said...)
		w = played(t, w, c.lines...)
		if w.Guests[0].State != c.state {
			t.Errorf("%s: %v", c.name, w)
		}
		for i, n := range w.Inns {
			same := slices.EqualFunc(n.Seats, c.want[i], func(s impl.Seat, texts []string) bool { return slices.Equal(impl.LogOf(s), texts) })
			if !same {
				t.Errorf("%s: house %d has %v", c.name, i, n)
			}
		}
	}
}

// TestPlayOfSoMany: at most 300 acts are played, those that are refused among them.
func TestPlayOfSoMany(t *testing.T) {
	tick, none, refused := impl.Act{Kind: impl.AcTick, A: 1}, impl.Act{Kind: 16}, impl.Act{Kind: impl.AcShut, A: 6}
	for _, base := range []impl.World{mustWorld(t, 1), worldLike(t, 2, 3, 2, 7)} {
		for _, count := range []int{0, 1, 2, 10, 100, 298, 299, 300, 301, 302, 600, 1000} {
			for name, each := range map[string][]impl.Act{
				"all are done": {tick}, "all are none": {none}, "all are the zero Act": {noAct}, "all are refused": {refused},
				"every second one is done": {refused, tick}, "every third one is done": {none, tick, refused},
			} {
				var list []impl.Act
				want := cloneWorld(base)
				for i := range count {
					list = append(list, each[i%len(each)])
					if list[i] == tick {
						want.Now++
					}
				}
				if count > 300 {
					want = noWorld
				}
				if got := impl.Play(base, list); !sameWorld(got, want) {
					t.Errorf("%d acts, %s: of %v: %v, not %v", count, name, base, got, want)
				}
				checkPlay(t, name, base, list)
			}
		}
	}
}

// TestPlayInOrder: each act is done in what the ones ahead of it made, and what is refused leaves that to the ones behind.
func TestPlayInOrder(t *testing.T) {
	base := mustWorld(t, 1)
	for _, c := range []struct {
		lines []string
		// Now, Last, and of the first guest what it said and its State; -1 where there is none.
		now, last int64
		said      []string
		state     int64
	}{
		{nil, 0, 1, nil, -1},
		{[]string{"invite"}, 0, 2, nil, impl.GuNew},
		{[]string{"say 0 hay", "invite"}, 0, 2, nil, impl.GuNew},
		{[]string{"invite", "say 0 hay"}, 0, 2, []string{"hay"}, impl.GuNew},
		{[]string{"invite", "say 0 hay", "early 0 oats"}, 0, 2, []string{"hay"}, impl.GuNew},
		{[]string{"invite", "early 0 oats", "say 0 hay"}, 0, 2, []string{"oats", "hay"}, impl.GuNew},
		{[]string{"invite", "say 0 hay", "early 0 oats", "say 0 rye"}, 0, 2, []string{"hay", "rye"}, impl.GuNew},
		{[]string{"invite", "shut 0", "say 0 hay"}, 0, 2, nil, impl.GuShut},
		{[]string{"invite", "say 0 hay", "shut 0", "shut 0"}, 0, 2, []string{"hay"}, impl.GuShut},
		{[]string{"tick 99999", "tick 2", "tick 1", "tick 1"}, 100000, 1, nil, -1},
		{[]string{"tick 5", "tick 0", "tick -1", "tick 7"}, 12, 1, nil, -1},
		{[]string{"token 5 5", "token 0 5", "token 5 101", "invite", "token 9 9"}, 0, 4, nil, impl.GuNew},
		{[]string{"invite", "invite", "invite", "invite", "invite", "invite", "invite", "token 5 5"}, 0, 8, nil, impl.GuNew},
		{[]string{"invite", "greet 0 0 0", "offer 0 1", "greet 0 1 0", "greet 0 0 0", "greet 0 0 0", "hear 0 0"}, 0, 3, nil, impl.GuDone},
	} {
		var list []impl.Act
		for _, line := range c.lines {
			list = append(list, mustAct(t, line))
		}
		got := checkPlay(t, "in order", base, list)
		state, said := int64(-1), []string(nil)
		if len(got.Guests) > 0 {
			state, said = got.Guests[0].State, impl.AllOf(got.Guests[0])
		}
		if got.Now != c.now || got.Last != c.last || state != c.state || !slices.Equal(said, c.said) {
			t.Errorf("%q: %v", c.lines, got)
		}
	}
}

// TestPlayOfAllBases: an empty list leaves each World as it is; each act alone does what Happen does.
func TestPlayOfAllBases(t *testing.T) {
	for _, w := range worldBases(t) {
		for _, list := range [][]impl.Act{nil, {}, make([]impl.Act, 0, 5)} {
			if got := impl.Play(w, list); !sameWorld(got, w) {
				t.Fatalf("of %v: Play of nothing = %v", w, got)
			}
		}
		for _, row := range actRows {
			for _, a := range []impl.Act{{Kind: row.kind}, {Kind: row.kind, A: 1, B: 1, Text: "hay"}, {Kind: row.kind, A: 100, B: 20}} {
				next, _ := impl.Happen(w, a)
				if got := impl.Play(w, []impl.Act{a}); !sameWorld(got, next) {
					t.Fatalf("of %v: Play of %v = %v, not %v", w, a, got, next)
				}
			}
		}
	}
}

func TestShowAct(t *testing.T) {
	for _, c := range []struct {
		act  impl.Act
		want string
	}{
		{impl.Act{Kind: impl.AcInvite}, "invite"},
		{impl.Act{Kind: impl.AcToken, A: 200, B: 20}, "token 200 20"},
		{impl.Act{Kind: impl.AcEarly, A: 0, Text: "hay"}, "early 0 hay"},
		{impl.Act{Kind: impl.AcSay, A: 5, Text: "0"}, "say 5 0"},
		{impl.Act{Kind: impl.AcOffer, A: 1, B: 1}, "offer 1 1"},
		{impl.Act{Kind: impl.AcSend, A: 3}, "send 3"},
		{impl.Act{Kind: impl.AcGreet, A: 10, B: 2, C: 3}, "greet 10 2 3"},
		{impl.Act{Kind: impl.AcHand, A: 59, B: 0, C: 7}, "hand 59 0 7"},
		{impl.Act{Kind: impl.AcHear, A: 4, B: 5}, "hear 4 5"},
		{impl.Act{Kind: impl.AcLose, A: 6}, "lose 6"},
		{impl.Act{Kind: impl.AcTwice, A: 7}, "twice 7"},
		{impl.Act{Kind: impl.AcSpoil, A: 8}, "spoil 8"},
		{impl.Act{Kind: impl.AcTick, A: 100000}, "tick 100000"},
		{impl.Act{Kind: impl.AcFall, A: 2}, "fall 2"},
		{impl.Act{Kind: impl.AcShut, A: 5}, "shut 5"},
		{impl.Act{Kind: impl.AcTick, A: -1}, "tick -1"},
		{impl.Act{Kind: impl.AcGreet, A: -1, B: -20, C: -300}, "greet -1 -20 -300"},
		{impl.Act{Kind: impl.AcTick, A: 999999999}, "tick 999999999"},
		{impl.Act{Kind: impl.AcTick, A: 1000000000}, "tick 1000000000"},
		{impl.Act{Kind: impl.AcTick, A: -1000000000}, "tick -1000000000"},
		{impl.Act{Kind: impl.AcHear, A: math.MinInt64, B: math.MaxInt64}, "hear -9223372036854775808 9223372036854775807"},
		{impl.Act{Kind: impl.AcSay, A: math.MinInt64, Text: "zzzzzzzzzzzz"}, "say -9223372036854775808 zzzzzzzzzzzz"},
		// What is not told.
		{impl.Act{Kind: impl.AcInvite, A: 1, B: 2, C: 3, Text: "hay"}, "invite"},
		{impl.Act{Kind: impl.AcTick, A: 1, B: 2, C: 3, Text: "hay"}, "tick 1"},
		{impl.Act{Kind: impl.AcTick, A: 1, Text: "No text"}, "tick 1"},
		{impl.Act{Kind: impl.AcEarly, A: 1, B: 2, C: 3, Text: "hay"}, "early 1 hay"},
		{impl.Act{Kind: impl.AcHear, A: 1, B: 2, C: 3, Text: "hay"}, "hear 1 2"},
		{impl.Act{Kind: impl.AcGreet, A: 1, B: 2, C: 3, Text: "hay"}, "greet 1 2 3"},
		// What is none.
		{noAct, ""},
		{impl.Act{Kind: 0, A: 1, Text: "hay"}, ""},
		{impl.Act{Kind: 16, A: 1, Text: "hay"}, ""},
		{impl.Act{Kind: -1, A: 1, Text: "hay"}, ""},
		{impl.Act{Kind: impl.AcEarly, A: 1}, ""},
		{impl.Act{Kind: impl.AcSay, A: 1}, ""},
		{impl.Act{Kind: impl.AcSay, A: 1, Text: "A"}, ""},
		{impl.Act{Kind: impl.AcSay, A: 1, Text: "hay oats"}, ""},
		{impl.Act{Kind: impl.AcEarly, A: 1, Text: "zzzzzzzzzzzzz"}, ""},
	} {
		if got := impl.ShowAct(c.act); got != c.want {
			t.Errorf("ShowAct(%v) = %q, not %q", c.act, got, c.want)
		}
		checkShowAct(t, "table", c.act)
	}
}

// actNumbers are of up to 9 digits and of more, below 0 and not.
var actNumbers = []int64{
	0, 1, -1, 2, 9, 10, -10, 99, 100, 12345, -67890, 99999999, 100000000, 999999998, 999999999, -999999999, 1000000000, -1000000000,
	1<<31 - 1, -1 << 31, 1 << 32, 1 << 53, math.MaxInt64 - 1, math.MaxInt64, math.MinInt64 + 1, math.MinInt64,
}

// isShort is a number of at most 9 digits.
func isShort(n int64) bool {
	return n > -1000000000 && n < 1000000000
}

// checkThereAndBack wants ReadAct of ShowAct to be the act, where it tells all that the act has by numbers that may be read.
func checkThereAndBack(t *testing.T, a impl.Act) bool {
	t.Helper()
	s := checkShowAct(t, "there and back", a)
	got, is := checkReadAct(t, "there and back", s)
	whole := told(a)
	if s == "" || !isShort(whole.A) || !isShort(whole.B) || !isShort(whole.C) {
		if is || got != noAct {
			t.Fatalf("of %v: ReadAct(%q) = %v, %v", a, s, got, is)
		}
		return false
	}
	if !is || got != whole || impl.ShowAct(got) != s {
		t.Fatalf("of %v: ReadAct(%q) = %v, %v", a, s, got, is)
	}
	return a == whole
}

// TestReadActOfShowAct: each Kind, and what is none, with each of these numbers at each place, and each of these texts.
func TestReadActOfShowAct(t *testing.T) {
	same := map[int64]int{}
	kinds := slices.Clone(wrongKinds)
	for _, row := range actRows {
		kinds = append(kinds, row.kind)
	}
	texts := slices.Concat(rightTexts, wrongTexts)
	for _, kind := range kinds {
		for i, n := range actNumbers {
			for j, m := range actNumbers {
				text := texts[(i*len(actNumbers)+j)%len(texts)]
				for _, a := range []impl.Act{
					{A: n}, {A: n, Text: text}, {A: n, B: m}, {A: n, B: m, C: n}, {A: n, B: m, C: actNumbers[(i+j)%len(actNumbers)]},
					{A: m, B: n, C: 7, Text: text}, {A: 3, C: n, Text: text}, {B: n, C: m},
				} {
					a.Kind = kind
					if checkThereAndBack(t, a) {
						same[kind]++
					}
				}
			}
		}
		for _, text := range texts {
			for _, n := range []int64{0, 5, -5, 1000000000} {
				if checkThereAndBack(t, impl.Act{Kind: kind, A: n, Text: text}) {
					same[kind]++
				}
			}
		}
	}
	for _, row := range actRows {
		if least := map[bool]int{true: 20, false: 1}[row.numbers > 0]; same[row.kind] < least {
			t.Errorf("%s: the same act %d times", row.word, same[row.kind])
		}
	}
	for _, kind := range wrongKinds {
		if same[kind] != 0 {
			t.Errorf("kind %d is shown", kind)
		}
	}
}

func TestReadAct(t *testing.T) {
	for _, c := range []struct {
		line string
		want impl.Act
	}{
		{"invite", impl.Act{Kind: impl.AcInvite}},
		{"token 200 20", impl.Act{Kind: impl.AcToken, A: 200, B: 20}},
		{"early 0 hay", impl.Act{Kind: impl.AcEarly, Text: "hay"}},
		{"say 5 0", impl.Act{Kind: impl.AcSay, A: 5, Text: "0"}},
		{"say 5 007", impl.Act{Kind: impl.AcSay, A: 5, Text: "007"}},
		{"say 5 zzzzzzzzzzzz", impl.Act{Kind: impl.AcSay, A: 5, Text: "zzzzzzzzzzzz"}},
		{"say 5 say", impl.Act{Kind: impl.AcSay, A: 5, Text: "say"}},
		{"offer 1 2", impl.Act{Kind: impl.AcOffer, A: 1, B: 2}},
		{"send 3", impl.Act{Kind: impl.AcSend, A: 3}},
		{"greet 10 2 3", impl.Act{Kind: impl.AcGreet, A: 10, B: 2, C: 3}},
		{"hand 59 0 7", impl.Act{Kind: impl.AcHand, A: 59, C: 7}},
		{"hear 4 5", impl.Act{Kind: impl.AcHear, A: 4, B: 5}},
		{"lose 6", impl.Act{Kind: impl.AcLose, A: 6}},
		{"twice 7", impl.Act{Kind: impl.AcTwice, A: 7}},
		{"spoil 8", impl.Act{Kind: impl.AcSpoil, A: 8}},
		{"tick 999999999", impl.Act{Kind: impl.AcTick, A: 999999999}},
		{"tick -999999999", impl.Act{Kind: impl.AcTick, A: -999999999}},
		{"fall -1", impl.Act{Kind: impl.AcFall, A: -1}},
		{"shut 0", impl.Act{Kind: impl.AcShut}},
		{"hand -1 -20 -300", impl.Act{Kind: impl.AcHand, A: -1, B: -20, C: -300}},
	} {
		if got, is := impl.ReadAct(c.line); !is || got != c.want {
			t.Errorf("ReadAct(%q) = %v, %v", c.line, got, is)
		}
		checkReadAct(t, "table", c.line)
	}
}

func TestReadActOfNone(t *testing.T) {
	for _, line := range []string{
		"", " ", "  ", "\n", "\x00", "0", "1", "-", "hay", "0 hay", "1 0",
		// The word.
		"Invite", "INVITE", "invit", "invites", "nvite", "invite\n", "invite\t", "\tinvite", "\ninvite", "invite\x00", "tock 5", "Tick 5", "tic 5", "ticks 5", "tick5", "t 5",
		"world 2", "way", "guest 0", "purse", "calm 0 0 0 1", "\xfftick 5", "tıck 5",
		// Too few and too many words.
		"invite 0", "invite 1", "invite hay", "invite invite", "token", "token 5", "token 5 5 5", "early", "early 0", "early hay", "early 0 hay 0", "early 0 0 hay",
		"say", "say 0", "say hay", "say 0 hay oats", "say hay 0", "offer", "offer 0", "offer 0 1 0", "offer 0 1 hay", "send", "send 0 0", "send 0 hay",
		"greet", "greet 0", "greet 0 0", "greet 0 0 0 0", "greet 0 0 0 hay", "hand", "hand 0", "hand 0 0", "hand 0 0 0 0", "hear", "hear 0", "hear 0 0 0",
		"lose", "lose 0 0", "twice", "twice 0 0", "spoil", "spoil 0 0", "tick", "tick 1 1", "fall", "fall 0 0", "shut", "shut 0 0", "shut 0 shut 0",
		// Blanks.
		" invite", "invite ", "  invite", "invite  ", " tick 5", "tick 5 ", "tick  5", " tick 5 ", "tick ", "tick  ", "token 5  5", "token  5 5", "token 5 5 ", "token 5 ", "token  5",
		"say  0 hay", "say 0  hay", "say 0 hay ", " say 0 hay", "say 0 ", "say  hay", "early 0 ", "tick\t5", "tick\n5", "tick 5\n", "tick 5\r", "tick\u00a05", "tick,5",
		// The numbers.
		"tick 1000000000", "tick -1000000000", "tick 9999999999", "tick 4294967297", "tick 18446744073709551617", "tick 9223372036854775807", "tick -9223372036854775808",
		"tick 00", "tick 01", "tick 05", "tick 007", "tick 0000000001", "tick -0", "tick -00", "tick -01", "tick -05", "tick +5", "tick +0", "tick +-5", "tick -+5", "tick --5", "tick -",
		"tick +", "tick 5-", "tick 5+", "tick - 5", "tick 5.", "tick 5.0", "tick 5e1", "tick 0x5", "tick 1_000", "tick 1,000", "tick 5a", "tick a5", "tick a", "tick hay", "tick ٥", "tick ５",
		"tick 5\x00", "tick 5\xff", "tick \"5\"", "tick /", "tick :", "token 5 05", "token 05 5", "token 5 -0", "token -0 5", "token 5 hay", "token hay 5", "token 5 1000000000",
		"token 1000000000 5", "greet 0 0 00", "greet 0 00 0", "greet 00 0 0", "hand 0 0 -", "hand 0 - 0", "hand - 0 0", "hear 0 +0", "hear +0 0", "say 00 hay", "say -0 hay", "say + hay",
		"say 1000000000 hay", "early 01 hay", "early 1000000000 hay", "early x hay",
		// The text.
		"say 0 A", "say 0 Hay", "say 0 hAy", "say 0 haY", "say 0 zzzzzzzzzzzzz", "say 0 -", "say 0 -1", "say 0 hay-oats", "say 0 hay.", "say 0 ha\x00", "say 0 hä", "say 0 \xff", "say 0 /",
		"say 0 :", "say 0 `", "say 0 {", "say 0 @", "say 0 [", "say 0 hay\n", "say 0 hay\t", "early 0 A", "early 0 zzzzzzzzzzzzz", "early 0 hay_", "early 0 1234567890123",
	} {
		if got, is := impl.ReadAct(line); is || got != noAct {
			t.Errorf("ReadAct(%q) = %v, %v", line, got, is)
		}
		checkReadAct(t, "none", line)
	}
}

// rightLines are of each Kind.
var rightLines = []string{
	"invite", "token 200 20", "token -1 0", "early 0 hay", "early -12 b7", "say 5 oats", "say 123456789 a", "offer 0 1", "send 3", "greet 10 2 3",
	"hand 59 0 -7", "hear 4 5", "lose 6", "twice 100", "spoil 8", "tick 999999999", "tick -999999999", "fall 2", "shut 5",
}

// TestReadActOfEachChange: each byte of a right line is each other one, is gone, or has each one ahead of it.
func TestReadActOfEachChange(t *testing.T) {
	acts := 0
	for _, line := range rightLines {
		for at := range len(line) + 1 {
			for b := range 256 {
				changed := []string{line[:at] + string([]byte{byte(b)}) + line[at:]}
				if at < len(line) {
					changed = append(changed, line[:at]+string([]byte{byte(b)})+line[at+1:])
				}
				for _, s := range changed {
					if _, is := checkReadAct(t, "one byte", s); is {
						acts++
					}
				}
			}
			for end := at; end <= len(line); end++ {
				checkReadAct(t, "without some", line[:at]+line[end:])
				checkReadAct(t, "some alone", line[at:end])
				checkReadAct(t, "some twice", line[:end]+line[at:])
			}
		}
	}
	if acts < 1000 {
		t.Fatalf("%d acts", acts)
	}
}

// linePieces are what lines may be put together of.
var linePieces = []string{
	"", " ", "  ", "-", "+", "0", "1", "-1", "9", "00", "-0", "12345678", "999999999", "1000000000", "hay", "A", "zzzzzzzzzzzz", "zzzzzzzzzzzzz",
	"invite", "token", "early", "say", "offer", "send", "greet", "hand", "hear", "lose", "twice", "spoil", "tick", "fall", "shut", "purse", "Say", "\n",
}

// TestReadActOfPieces: all ways of a word and three pieces behind it, with a blank ahead of each or with none; and of two pieces alone.
func TestReadActOfPieces(t *testing.T) {
	acts := map[int64]int{}
	check := func(s string) {
		if a, is := checkReadAct(t, "pieces", s); is {
			acts[a.Kind]++
		}
	}
	behind := linePieces[:18]
	for _, first := range linePieces {
		check(first)
		for _, second := range linePieces {
			check(first + second)
			check(first + " " + second)
		}
		for _, a := range behind {
			for _, b := range behind {
				check(first + " " + a + " " + b)
				check(first + " " + a + b)
				check(first + a + " " + b)
				for _, c := range behind {
					check(first + " " + a + " " + b + " " + c)
				}
			}
		}
	}
	for _, row := range actRows {
		if acts[row.kind] == 0 {
			t.Errorf("no %s among them", row.word)
		}
	}
}

// TestReadActOfNumbers: each number around those of 1 to 10 digits, as a whole word, below 0 and not, at each place there is one.
func TestReadActOfNumbers(t *testing.T) {
	var numbers []int64
	for ten := int64(1); ten <= 10000000000; ten *= 10 {
		for n := ten - 3; n <= ten+3; n++ {
			numbers = append(numbers, n, -n, n*3, -n*7)
		}
	}
	numbers = append(numbers, actNumbers...)
	for _, n := range numbers {
		word := strconv.FormatInt(n, 10)
		for _, row := range actRows {
			for at := range row.numbers {
				words := []string{row.word, "0", "1", "2"}[:1+row.numbers]
				words[1+at] = word
				if row.text {
					words = append(words, "hay")
				}
				line := strings.Join(words, " ")
				a, is := checkReadAct(t, "numbers", line)
				if is != isShort(n) || is && []int64{a.A, a.B, a.C}[at] != n {
					t.Fatalf("ReadAct(%q) = %v, %v", line, a, is)
				}
			}
		}
	}
}

// busyWorld is oneWorld where the second guest has early words to send, and some Letters come to who hears them.
func busyWorld(t *testing.T, s worldSize) (impl.World, worldRooms) {
	t.Helper()
	w, r := oneWorld(t, s)
	if len(w.Guests) > 1 {
		asks := baseOf(t, "o")
		asks.Draw, asks.Early, asks.Words, asks.Ahead = 3, w.Guests[1].Early, w.Guests[1].Words, 0
		w.Guests[1] = withItsRow(asks)
	}
	if len(w.Guests) > 0 && s.texts%2 == 0 {
		// It may say early words yet.
		w.Guests[0].Words = w.Guests[0].Words[:0]
	}
	if len(w.Way) > 5 {
		w.Way[2].Answer = mustAnswer(t, 3, 0, impl.PkAgain, 0)
		w.Way[5].Answer = mustAnswer(t, 3, 45, impl.PkEarly, 5)
	}
	if len(w.Way) > 4 && s.inns > 0 && s.seats > 2 {
		waits, early := w.Inns[0].Seats[0], w.Inns[0].Seats[2]
		w.Way[1].Box = impl.Box{Key: waits.Forth.Key, No: waits.Forth.No, Text: fmt.Sprintf("end%d", len(waits.Log))}
		w.Way[4].Box = impl.Box{Key: early.Early.Key, No: early.Early.No, Text: "rye"}
	}
	return w, r
}

// busyActs are of each Kind, some that are done in a busyWorld, and some that are refused there.
func busyActs(t *testing.T) []impl.Act {
	t.Helper()
	list := []impl.Act{noAct, {Kind: 16, A: 1}}
	for _, line := range []string{
		"invite", "token 100 20", "token 0 20", "early 0 rye", "early 1 rye", "early 2 rye", "early 9 rye", "say 0 rye", "say 1 rye", "say 3 rye",
		"offer 0 1", "offer 0 0", "offer 0 2", "offer 1 1", "send 0", "send 1", "send 2", "send 9", "greet 0 0 0", "greet 0 0 3", "greet 0 0 9",
		"greet 1 0 0", "greet 0 9 0", "hand 1 0 0", "hand 1 0 1", "hand 4 0 2", "hand 1 0 9", "hand 0 0 0", "hear 2 1", "hear 5 1", "hear 2 0",
		"hear 2 9", "hear 1 1", "lose 0", "lose 2", "lose -1", "twice 0", "twice 4", "twice 99", "spoil 0", "spoil 1", "spoil 2", "spoil 99",
		"tick 1", "tick 0", "fall 0", "fall 1", "fall 9", "shut 0", "shut 1", "shut 3", "shut 9",
	} {
		list = append(list, mustAct(t, line))
	}
	return list
}

// scriptCalls are calls whose answers are Worlds: Happen of each busy act, and Play of none, some, and too many.
func scriptCalls(t *testing.T) []func(w impl.World) impl.World {
	t.Helper()
	var calls []func(w impl.World) impl.World
	acts := busyActs(t)
	for _, a := range acts {
		calls = append(calls, func(w impl.World) impl.World { w, _ = impl.Happen(w, a); return w })
	}
	for _, list := range [][]impl.Act{nil, acts[:1], acts[2:3], acts[20:26], acts, slices.Repeat(acts, 10)} {
		calls = append(calls, func(w impl.World) impl.World { return impl.Play(w, list) })
	}
	return calls
}

// TestBusyWorlds: enough is done there that what is answered could be shared with what was given.
func TestBusyWorlds(t *testing.T) {
	done := map[int64]int{}
	for _, size := range worldSizes {
		for _, a := range busyActs(t) {
			w, _ := busyWorld(t, size)
			got, is := checkHappen(t, fmt.Sprintf("size %v", size), w, a)
			if is {
				done[a.Kind]++
			}
			if is && size == (worldSize{2, 2, 3, 4, 3, 2, 3, 5}) && a.Kind == impl.AcHand && a.A == 4 && len(got.Inns[0].Seats[2].Log) != 5 {
				t.Errorf("%v is not heard", a)
			}
		}
	}
	for _, row := range actRows {
		if done[row.kind] < 3 {
			t.Errorf("%s was done %d times", row.word, done[row.kind])
		}
	}
}

func TestScriptArgumentsStay(t *testing.T) {
	for _, size := range worldSizes {
		for i, call := range scriptCalls(t) {
			w, rooms := busyWorld(t, size)
			given, kept := rooms.cloned(), cloneWorld(w)
			got := call(w)
			if !rooms.same(given) || !sameWorld(w, kept) {
				t.Fatalf("size %v, call %d: of %v now %v", size, i, kept, w)
			}
			// Nor does it change by what is done to the answer.
			for _, move := range movingLists(&got) {
				move()
			}
			if !rooms.same(given) || !sameWorld(w, kept) {
				t.Fatalf("size %v, call %d: behind its answer of %v now %v", size, i, kept, w)
			}
		}
	}
}

// TestScriptAnswersAreNew: an answer stays as it was, whatever is done to the argument, and each list of it whatever is done to the others.
func TestScriptAnswersAreNew(t *testing.T) {
	for _, size := range worldSizes {
		for i, call := range scriptCalls(t) {
			w, rooms := busyWorld(t, size)
			got := call(w)
			want := cloneWorld(got)
			rooms.overwrite()
			if !sameWorld(got, want) {
				t.Fatalf("size %v, call %d: the answer was %v, now it is %v", size, i, want, got)
			}
			for j, move := range movingLists(&got) {
				if move(); !sameWorld(got, want) {
					t.Fatalf("size %v, call %d: the answer was %v, by list %d it is %v", size, i, want, j, got)
				}
			}
		}
	}
}

// TestScriptsOfOneWorld: what becomes of a World by one act is of no matter for what becomes of it by another one.
func TestScriptsOfOneWorld(t *testing.T) {
	for _, size := range []worldSize{{2, 2, 3, 4, 3, 2, 3, 5}, {3, 5, 7, 5, 5, 4, 5, 9}, {1, 0, 0, 0, 1, 0, 0, 1}} {
		base, _ := busyWorld(t, size)
		var answers, kept []impl.World
		for _, call := range slices.Repeat(scriptCalls(t), 2) {
			answers = append(answers, call(base))
		}
		for _, w := range answers {
			kept = append(kept, cloneWorld(w))
		}
		for i := range answers {
			gone := answers[i]
			for _, move := range movingLists(&gone) {
				move()
			}
			for j := i + 1; j < len(answers); j++ {
				if !sameWorld(answers[j], kept[j]) {
					t.Fatalf("of %v: answer %d was %v, by answer %d it is %v", base, j, kept[j], i, answers[j])
				}
			}
		}
	}
}

// TestPlayListStays: nothing is written into the list, nor into the spare room behind it; nor is it kept.
func TestPlayListStays(t *testing.T) {
	acts := busyActs(t)
	for _, size := range worldSizes {
		w, _ := busyWorld(t, size)
		for _, count := range []int{0, 1, 5, len(acts)} {
			room := append(slices.Clone(acts), impl.Act{Kind: 9, A: 9}, impl.Act{Kind: 8, Text: "spare"})
			given := slices.Clone(room)
			got := impl.Play(w, room[:count])
			if !slices.Equal(room, given) {
				t.Fatalf("size %v: Play of %v: now %v", size, given[:count], room)
			}
			want := cloneWorld(got)
			overwrite(room, impl.Act{Kind: impl.AcTick, A: 7, Text: "overwritten"})
			if !sameWorld(got, want) {
				t.Fatalf("size %v: Play of %v was %v, now it is %v", size, given[:count], want, got)
			}
		}
	}
}

// checkActs wants of each of these acts what the model wants, and of Play of all of them.
func checkActs(t *testing.T, name string, w impl.World, acts []impl.Act) {
	t.Helper()
	for _, a := range acts {
		checkHappen(t, name, w, a)
	}
	checkPlay(t, name, w, acts)
}

// TestScriptsAtEachNumber: each number of a World, and of what is in it, is each of these once, right or wrong, and nothing panics.
func TestScriptsAtEachNumber(t *testing.T) {
	base, _ := busyWorld(t, worldSize{2, 2, 3, 4, 3, 2, 3, 6})
	all, count := busyActs(t), 0
	check := func(name string, change func(w *impl.World)) {
		// Three acts in turn, others for each change.
		first := count * 3 % (len(all) - 2)
		checkActs(t, name, changedWorld(base, change), all[first:first+3])
		count++
	}
	for _, n := range append(slices.Clone(guestNumbers), 49, 50, 51, 1<<32+50) {
		for _, change := range []func(w *impl.World){
			func(w *impl.World) { w.Secret = n },
			func(w *impl.World) { w.Now = n },
			func(w *impl.World) { w.Last = n },
			func(w *impl.World) { w.Secret, w.Now, w.Last = n, n, n },
			func(w *impl.World) { w.Inns[1].Memory.Since = n },
			func(w *impl.World) { w.Inns[1].Memory.Seen[0] = n },
			func(w *impl.World) { w.Purse[1].Secret = n },
			func(w *impl.World) { w.Purse[1].Born = n },
			func(w *impl.World) { w.Purse[1].Life = n },
			func(w *impl.World) { w.Purse[1].Most = n },
			func(w *impl.World) { w.Purse[1].Seal.No = n },
		} {
			checkActs(t, "each number", changedWorld(base, change), all)
		}
		for i := range base.Guests {
			for _, change := range changesTo(n) {
				check("each number of a guest", func(w *impl.World) { change(&w.Guests[i]) })
				check("each number of a guest, with its row", func(w *impl.World) { fit(change)(&w.Guests[i]) })
			}
		}
		for _, change := range changesToSeat(n) {
			check("each number of a seat", func(w *impl.World) { change(&w.Inns[0].Seats[2]) })
		}
		for i, l := range base.Way {
			for _, change := range changesToLetter(l.Kind, n) {
				check("each number of a letter", func(w *impl.World) { change(&w.Way[i]) })
			}
		}
	}
}

// TestActsAtEachNumber: each number of an act is each of these once, and nothing panics.
func TestActsAtEachNumber(t *testing.T) {
	worlds := []impl.World{noWorld, mustWorld(t, 1), worldLike(t, 1, 2, 1, 60)}
	for _, size := range []worldSize{{1, 1, 1, 1, 1, 1, 1, 1}, {2, 2, 3, 4, 3, 2, 3, 6}} {
		w, _ := busyWorld(t, size)
		worlds = append(worlds, w)
	}
	numbers := append(slices.Clone(guestNumbers), 3, 5, 6, 59, 60, 61, 99909, 99910, 99911)
	for _, n := range numbers {
		acts := []impl.Act{{Kind: n}, {Kind: n, A: n, B: n, C: n}, {Kind: n, Text: "hay"}}
		for _, row := range actRows {
			for _, a := range []impl.Act{{A: n}, {B: n}, {C: n}, {A: n, B: n}, {A: 1, B: n}, {A: n, B: 1, C: 1}, {A: 4, B: n, C: 2}, {A: 4, C: n}, {A: n, B: n, C: n}} {
				a.Kind = row.kind
				acts = append(acts, a, impl.Act{Kind: a.Kind, A: a.A, B: a.B, C: a.C, Text: "hay"})
			}
		}
		for _, a := range acts {
			for _, w := range worlds {
				checkHappen(t, "each number of an act", w, a)
			}
			checkThereAndBack(t, a)
		}
		checkPlay(t, "each number of an act", worlds[3], acts)
	}
}

// TestScriptAnswersDoNotHangOnCallsAhead: what was done in another World ahead of a call, or in the same one, is of no matter.
func TestScriptAnswersDoNotHangOnCallsAhead(t *testing.T) {
	acts := busyActs(t)
	for range 2 {
		for _, size := range worldSizes {
			w, _ := busyWorld(t, size)
			checkActs(t, "behind another one", w, acts)
			for _, a := range acts {
				checkHappen(t, "behind Play", w, a)
				checkThereAndBack(t, a)
			}
			checkReadAct(t, "between", "tick 5 5")
			checkReadAct(t, "between", "tick 5")
		}
	}
}
