package tests

import (
	"fmt"
	"math"
	"slices"
	"strings"
	"testing"

	"loop.example/g00558/impl"
)

// boxesIn are the Boxes of these texts, numbered from first on.
func boxesIn(k impl.Key, first int64, texts []string) []impl.Box {
	var list []impl.Box
	for i, s := range texts {
		list = append(list, impl.Box{Key: k, No: first + int64(i), Text: s})
	}
	return list
}

func textsOf(boxes []impl.Box) []string {
	var list []string
	for _, b := range boxes {
		list = append(list, b.Text)
	}
	return list
}

// The models go through chapter 13, sentence by sentence.

func wantOffer(g impl.Guest, k impl.Token, has, early bool, now int64) (impl.Guest, impl.Hello, bool) {
	if !guestIsRight(g) {
		return impl.Guest{}, noHello, false
	}
	h, is := impl.Hello{Draw: g.Draw}, true
	if has {
		h, is = wantGreetingWith(g.Draw, false, k, early, now)
	}
	if g.State != 0 || !is {
		return g, noHello, false
	}
	return changedGuest(g, fit(func(g *impl.Guest) {
		g.State = 1
		if has {
			g.Token, g.Offers = k, early
		}
	})), h, true
}

func wantSendEarly(g impl.Guest) (impl.Guest, []impl.Box) {
	if !guestIsRight(g) {
		return impl.Guest{}, nil
	}
	if g.State != 1 || !g.Offers {
		return g, nil
	}
	upto := g.Ahead
	for upto < int64(len(g.Early)) && lengthOf(g.Early[:upto+1]) <= g.Token.Most {
		upto++
	}
	boxes := boxesIn(impl.Key{Use: impl.KyEarly, Secret: g.Token.Secret, Hello: g.Draw}, g.Ahead, g.Early[g.Ahead:upto])
	return changedGuest(g, fit(func(g *impl.Guest) { g.Ahead = upto })), boxes
}

func wantHear(g impl.Guest, a impl.Answer, now int64) (impl.Guest, impl.Hello, bool) {
	hears := guestIsRight(g) && (g.State == 1 || g.State == 2) && a.Hello == g.Draw && wantProves(a, g.Token.Secret)
	if !hears || a.Pick == 3 && !g.Offers || a.Pick == 4 && g.State == 2 {
		return g, noHello, false
	}
	if a.Pick == 4 {
		h, is := impl.Hello{Draw: g.Draw, Again: true}, true
		if isFresh(g.Token, now) {
			h, is = wantGreetingWith(g.Draw, true, g.Token, false, now)
		}
		if !is {
			return g, noHello, false
		}
		return changedGuest(g, func(g *impl.Guest) { g.State, g.Offers, g.Ahead, g.Row = 2, false, 0, noRow }), h, true
	}
	return changedGuest(g, func(g *impl.Guest) {
		g.State, g.Pick = 3, a.Pick
		if a.Pick != 3 {
			g.Ahead = 0
		}
		g.Row = rowOfGuest(*g, a.Draw)
	}), noHello, true
}

func wantSend(g impl.Guest) (impl.Guest, []impl.Box) {
	if !guestIsRight(g) {
		return impl.Guest{}, nil
	}
	if g.State != 3 {
		return g, nil
	}
	all := slices.Concat([]string{fmt.Sprintf("end%d", g.Ahead)}, g.Early[g.Ahead:], g.Words)
	boxes := boxesIn(g.Row.Key, g.Sent, all[g.Sent:])
	return changedGuest(g, func(g *impl.Guest) { g.Sent, g.Row.No = int64(len(all)), int64(len(all)) }), boxes
}

func wantShut(g impl.Guest) impl.Guest {
	if !guestIsRight(g) {
		return impl.Guest{}
	}
	return changedGuest(g, func(g *impl.Guest) { g.State, g.Row = 4, noRow })
}

// checkGuest wants what the model wants, and of a right Guest none but a right one.
func checkGuest(t *testing.T, name string, given, got, want impl.Guest) {
	t.Helper()
	if !sameGuest(got, want) {
		t.Fatalf("%s: of %v comes %v, not %v", name, given, got, want)
	}
	if guestIsRight(given) && !impl.GuestOk(got) {
		t.Fatalf("%s: of %v comes %v, which is not right", name, given, got)
	}
}

func checkOffer(t *testing.T, name string, g impl.Guest, k impl.Token, has, early bool, now int64) (impl.Guest, impl.Hello, bool) {
	t.Helper()
	want, hello, right := wantOffer(g, k, has, early, now)
	got, h, is := impl.Offer(g, k, has, early, now)
	checkGuest(t, name, g, got, want)
	if h != hello || is != right {
		t.Fatalf("%s: Offer(%v, %v, %v, %v, %d) is %v, %v", name, g, k, has, early, now, h, is)
	}
	return got, h, is
}

func checkSendEarly(t *testing.T, name string, g impl.Guest) (impl.Guest, []impl.Box) {
	t.Helper()
	want, boxes := wantSendEarly(g)
	got, sent := impl.SendEarly(g)
	checkGuest(t, name, g, got, want)
	if !slices.Equal(sent, boxes) {
		t.Fatalf("%s: SendEarly(%v) sends %v, not %v", name, g, sent, boxes)
	}
	return got, sent
}

func checkHear(t *testing.T, name string, g impl.Guest, a impl.Answer, now int64) (impl.Guest, impl.Hello, bool) {
	t.Helper()
	want, hello, right := wantHear(g, a, now)
	got, h, is := impl.Hear(g, a, now)
	checkGuest(t, name, g, got, want)
	if h != hello || is != right {
		t.Fatalf("%s: Hear(%v, %v, %d) is %v, %v", name, g, a, now, h, is)
	}
	return got, h, is
}

func checkSend(t *testing.T, name string, g impl.Guest) (impl.Guest, []impl.Box) {
	t.Helper()
	want, boxes := wantSend(g)
	got, sent := impl.Send(g)
	checkGuest(t, name, g, got, want)
	if !slices.Equal(sent, boxes) {
		t.Fatalf("%s: Send(%v) sends %v, not %v", name, g, sent, boxes)
	}
	return got, sent
}

func checkShut(t *testing.T, name string, g impl.Guest) impl.Guest {
	t.Helper()
	got := impl.Shut(g)
	checkGuest(t, name, g, got, wantShut(g))
	return got
}

// rightAnswers are to draw 9, of draw 12, by secret 5: of each pick one, in the order of the picks.
func rightAnswers(t *testing.T) []impl.Answer {
	t.Helper()
	return []impl.Answer{
		mustAnswer(t, 9, 12, impl.PkFull, 0), mustAnswer(t, 9, 12, impl.PkToken, 5),
		mustAnswer(t, 9, 12, impl.PkEarly, 5), mustAnswer(t, 9, 0, impl.PkAgain, 0),
	}
}

// checkTalk has a Guest do all that it may do.
func checkTalk(t *testing.T, name string, g impl.Guest, k impl.Token, answers []impl.Answer, now int64) {
	t.Helper()
	for _, has := range eitherWay {
		for _, early := range eitherWay {
			checkOffer(t, name, g, k, has, early, now)
		}
	}
	for _, a := range answers {
		checkHear(t, name, g, a, now)
	}
	checkSendEarly(t, name, g)
	checkSend(t, name, g)
	checkShut(t, name, g)
}

func baseOf(t *testing.T, letter string) impl.Guest {
	t.Helper()
	for _, b := range guestBases(t) {
		if b.letter == letter {
			return b.guest
		}
	}
	t.Fatalf("no base %s", letter)
	return impl.Guest{}
}

// talkNows are around the life of the token of the bases, from 70 to 170, and at the ends of all times.
var talkNows = []int64{math.MinInt64, -1, 0, 69, 70, 71, 90, 169, 170, 171, 99999, 100000, 100001, 1<<32 + 90, math.MaxInt64}

func TestOffer(t *testing.T) {
	k := mustToken(t, 1, 5, 70, 100, 20)
	none, spoilt, changed := mustToken(t, 1, 5, 70, 100, 0), k, k
	spoilt.Seal = impl.Spoil(k.Seal)
	changed.Life = 200
	for _, c := range []struct {
		name       string
		token      impl.Token
		has, early bool
		now        int64
		// What a Guest that has said something else besides becomes; no State of it is a refusal.
		want  impl.Guest
		hello impl.Hello
	}{
		{"without a token", noToken, false, false, 90, impl.Guest{State: impl.GuAsks}, impl.Hello{Draw: 9}},
		{"without a token, early", noToken, false, true, 90, impl.Guest{State: impl.GuAsks}, impl.Hello{Draw: 9}},
		{"without a token, at no time", noToken, false, false, -1, impl.Guest{State: impl.GuAsks}, impl.Hello{Draw: 9}},
		{"without a token, past all times", noToken, false, false, 100001, impl.Guest{State: impl.GuAsks}, impl.Hello{Draw: 9}},
		{"a token given along", k, false, false, 90, impl.Guest{State: impl.GuAsks}, impl.Hello{Draw: 9}},
		{"a token given along, early", k, false, true, 90, impl.Guest{State: impl.GuAsks}, impl.Hello{Draw: 9}},
		{"a wrong token given along", changed, false, true, 90, impl.Guest{State: impl.GuAsks}, impl.Hello{Draw: 9}},
		{"an old token given along", k, false, true, 171, impl.Guest{State: impl.GuAsks}, impl.Hello{Draw: 9}},

		{"with a token", k, true, false, 90, impl.Guest{State: impl.GuAsks, Token: k},
			impl.Hello{Draw: 9, Seal: k.Seal, Age: 20, Bind: bindOf(5, 9, false, 20, false)}},
		{"with a token, early", k, true, true, 90,
			impl.Guest{State: impl.GuAsks, Token: k, Offers: true, Row: impl.Row{Key: impl.EarlyKey(5, 9)}},
			impl.Hello{Draw: 9, Seal: k.Seal, Age: 20, Bind: bindOf(5, 9, false, 20, true), Early: true}},
		{"with a token, at Born", k, true, false, 70, impl.Guest{State: impl.GuAsks, Token: k},
			impl.Hello{Draw: 9, Seal: k.Seal, Bind: bindOf(5, 9, false, 0, false)}},
		{"with a token, early, at Born", k, true, true, 70,
			impl.Guest{State: impl.GuAsks, Token: k, Offers: true, Row: impl.Row{Key: impl.EarlyKey(5, 9)}},
			impl.Hello{Draw: 9, Seal: k.Seal, Bind: bindOf(5, 9, false, 0, true), Early: true}},
		{"with a token, at Born and Life", k, true, false, 170, impl.Guest{State: impl.GuAsks, Token: k},
			impl.Hello{Draw: 9, Seal: k.Seal, Age: 100, Bind: bindOf(5, 9, false, 100, false)}},
		{"with a token, early, at Born and Life", k, true, true, 170,
			impl.Guest{State: impl.GuAsks, Token: k, Offers: true, Row: impl.Row{Key: impl.EarlyKey(5, 9)}},
			impl.Hello{Draw: 9, Seal: k.Seal, Age: 100, Bind: bindOf(5, 9, false, 100, true), Early: true}},
		{"with a token of Most 0, early", none, true, true, 90,
			impl.Guest{State: impl.GuAsks, Token: none, Offers: true, Row: impl.Row{Key: impl.EarlyKey(5, 9)}},
			impl.Hello{Draw: 9, Seal: none.Seal, Age: 20, Bind: bindOf(5, 9, false, 20, true), Early: true}},
		{"with a token whose seal is spoilt", spoilt, true, false, 90, impl.Guest{State: impl.GuAsks, Token: spoilt},
			impl.Hello{Draw: 9, Seal: spoilt.Seal, Age: 20, Bind: bindOf(5, 9, false, 20, false)}},

		{"one ahead of Born", k, true, false, 69, impl.Guest{}, noHello},
		{"early, one ahead of Born", k, true, true, 69, impl.Guest{}, noHello},
		{"one past Born and Life", k, true, false, 171, impl.Guest{}, noHello},
		{"early, one past Born and Life", k, true, true, 171, impl.Guest{}, noHello},
		{"at no time", k, true, true, -1, impl.Guest{}, noHello},
		{"past all times", k, true, true, 100001, impl.Guest{}, noHello},
		{"at the least now", k, true, true, math.MinInt64, impl.Guest{}, noHello},
		{"at the largest now", k, true, true, math.MaxInt64, impl.Guest{}, noHello},
		{"with no token to have", noToken, true, false, 90, impl.Guest{}, noHello},
		{"with no token to have, at 0", noToken, true, true, 0, impl.Guest{}, noHello},
		{"with a token that is not right", changed, true, false, 90, impl.Guest{}, noHello},
		{"early, with a token that is not right", changed, true, true, 90, impl.Guest{}, noHello},
	} {
		g := impl.Guest{Draw: 9, Early: []string{"a", "b", "c"}, Words: []string{"d", "e"}}
		c.want.Draw, c.want.Early, c.want.Words = g.Draw, g.Early, g.Words
		got, h, is := impl.Offer(g, c.token, c.has, c.early, c.now)
		if !sameGuest(got, c.want) || h != c.hello || is != (c.want.State == impl.GuAsks) || !impl.GuestOk(got) {
			t.Errorf("%s: %v, %v, %v", c.name, got, h, is)
		}
		checkOffer(t, c.name+", the model", g, c.token, c.has, c.early, c.now)
	}
}

// TestOfferOfEachState: none but who is new greets, whatever it has.
func TestOfferOfEachState(t *testing.T) {
	k := mustToken(t, 1, 5, 70, 100, 20)
	for _, said := range [][2]int{{0, 0}, {3, 0}, {3, 2}, {20, 20}} {
		greets := ""
		for i, g := range guestsLike(t, said[0], said[1]) {
			for _, has := range eitherWay {
				for _, early := range eitherWay {
					next, h, is := checkOffer(t, "each state", g, k, has, early, 90)
					if is {
						greets += allBases[i : i+1]
					} else if !sameGuest(next, g) || h != noHello {
						t.Fatalf("refused, %v is %v, with %v", g, next, h)
					}
				}
			}
		}
		if greets != "nnnn" {
			t.Errorf("behind %d and %d greet %q", said[0], said[1], greets)
		}
	}
}

// TestOfferOfEachToken: each of these tokens, right and wrong, at each of these nows, to each base.
func TestOfferOfEachToken(t *testing.T) {
	k := mustToken(t, 1, 5, 70, 100, 20)
	last := mustToken(t, 100000, 100000, 100000, 1000, 100)
	tokens := append(wrongTokens(t), k, mustToken(t, 0, 1, 0, 1, 0), last)
	nows := append(slices.Clone(talkNows), 1, 2, 100500, 101000, 101001)
	greets := 0
	for _, b := range guestBases(t) {
		for _, token := range tokens {
			for _, now := range nows {
				for _, early := range eitherWay {
					checkOffer(t, "without "+b.letter, b.guest, token, false, early, now)
					if _, _, is := checkOffer(t, "with "+b.letter, b.guest, token, true, early, now); is {
						greets++
					}
				}
			}
		}
	}
	// Early or not: 5 nows are of the token of the bases, 2 of one of life 1, and 1 of one born at the last time, behind which there is no age to be told.
	if greets != 2*(5+2+1) {
		t.Fatalf("%d times one greets", greets)
	}
	if !impl.Fresh(last, 100001) {
		t.Fatal("it is fresh behind the last time, yet")
	}
}

// TestOfferOfEachDraw: the greeting and the Row are of the Guest's own draw and of that token's secret.
func TestOfferOfEachDraw(t *testing.T) {
	for _, draw := range []int64{1, 2, 5, 9, 50000, 99999, 100000} {
		for _, secret := range []int64{1, 2, 5, 9, 99999, 100000} {
			k := mustToken(t, 1, secret, 70, 100, 20)
			g, h, is := checkOffer(t, "each draw", mustGuest(t, draw), k, true, true, 90)
			row := impl.Row{Key: impl.Key{Use: impl.KyEarly, Secret: secret, Hello: draw}}
			if !is || h.Draw != draw || !impl.Binds(h, secret) || g.Row != row || g.Token != k {
				t.Fatalf("of %d by %d: %v, %v, %v", draw, secret, g, h, is)
			}
		}
	}
}

// asksWith is a Guest that offers these early words by a token with so much room, so many of them sent.
func asksWith(t *testing.T, early []string, most, ahead int64) impl.Guest {
	t.Helper()
	k := mustToken(t, 1, 5, 70, 100, most)
	return withItsRow(impl.Guest{State: impl.GuAsks, Draw: 9, Token: k, Offers: true, Early: early, Ahead: ahead})
}

func TestSendEarly(t *testing.T) {
	long := strings.Repeat("z", 12)
	most := slices.Repeat([]string{long}, 20)
	for _, c := range []struct {
		name        string
		early       []string
		most, ahead int64
		want        []string
	}{
		{"nothing said", nil, 20, 0, nil},
		{"nothing said, and no room", nil, 0, 0, nil},
		{"one word", []string{"abc"}, 20, 0, []string{"abc"}},
		{"one word, no room", []string{"abc"}, 0, 0, nil},
		{"the least word, no room", []string{"a"}, 0, 0, nil},
		{"the least word, room for one byte", []string{"a"}, 1, 0, []string{"a"}},
		{"one word, one byte too few", []string{"abc"}, 2, 0, nil},
		{"one word, its very bytes", []string{"abc"}, 3, 0, []string{"abc"}},
		{"one word, one byte more", []string{"abc"}, 4, 0, []string{"abc"}},
		{"three words, room for none", []string{"ab", "c", "def"}, 1, 0, nil},
		{"three words, room for one", []string{"ab", "c", "def"}, 2, 0, []string{"ab"}},
		{"three words, room for two", []string{"ab", "c", "def"}, 3, 0, []string{"ab", "c"}},
		{"three words, one byte too few", []string{"ab", "c", "def"}, 5, 0, []string{"ab", "c"}},
		{"three words, their very bytes", []string{"ab", "c", "def"}, 6, 0, []string{"ab", "c", "def"}},
		{"three words, one byte more", []string{"ab", "c", "def"}, 7, 0, []string{"ab", "c", "def"}},
		{"a longer one ahead of a shorter one", []string{"abcdef", "g"}, 5, 0, nil},
		{"a longer one between shorter ones", []string{"a", "bcdefg", "h"}, 5, 0, []string{"a"}},
		{"all alike", []string{"a", "a", "a"}, 2, 0, []string{"a", "a"}},
		{"one sent, all that is left", []string{"ab", "c", "def"}, 6, 1, []string{"c", "def"}},
		{"one sent, one byte too few", []string{"ab", "c", "def"}, 5, 1, []string{"c"}},
		{"one sent, room for it alone", []string{"ab", "c", "def"}, 2, 1, nil},
		{"two sent, all that is left", []string{"ab", "c", "def"}, 6, 2, []string{"def"}},
		{"two sent, one byte too few", []string{"ab", "c", "def"}, 5, 2, nil},
		{"all sent", []string{"ab", "c", "def"}, 20, 3, nil},
		{"more sent than there was room for", []string{"ab", "c", "def"}, 1, 2, nil},
		{"more sent than there was room for, a short one left", []string{"abc", "d"}, 2, 1, nil},
		{"all sent, and no room", []string{"ab", "c"}, 0, 2, nil},
		{"the most of short ones", numbered(20), 100, 0, numbered(20)},
		{"the most of short ones, room for half", numbered(20), 20, 0, numbered(10)},
		{"the most of the longest", most, 100, 0, most[:8]},
		{"the most of the longest, one sent", most, 100, 1, most[:7]},
		{"the most of the longest, the very bytes", most, 96, 0, most[:8]},
		{"the most of the longest, one byte too few", most, 95, 0, most[:7]},
		{"the last one of the most", numbered(20), 100, 19, []string{"w19"}},
	} {
		g := asksWith(t, c.early, c.most, c.ahead)
		got, sent := impl.SendEarly(g)
		want := changedGuest(g, fit(func(g *impl.Guest) { g.Ahead += int64(len(c.want)) }))
		if !sameGuest(got, want) || !slices.Equal(sent, boxesIn(impl.EarlyKey(5, 9), c.ahead, c.want)) || !impl.GuestOk(got) {
			t.Errorf("%s: %v, %v", c.name, got, sent)
		}
		checkSendEarly(t, c.name+", the model", g)
		// Called again it sends no more.
		again, more := impl.SendEarly(got)
		if !sameGuest(again, got) || len(more) != 0 {
			t.Errorf("%s, again: %v, %v", c.name, again, more)
		}
	}
}

// TestSendEarlyOfEachState: none but who asks and offers sends anything; and whoever does not stays as it is.
func TestSendEarlyOfEachState(t *testing.T) {
	sends := ""
	for _, b := range guestBases(t) {
		next, sent := checkSendEarly(t, "of "+b.letter, b.guest)
		if len(sent) != 0 {
			sends += b.letter
		} else if !sameGuest(next, b.guest) {
			t.Errorf("of %s: %v is %v", b.letter, b.guest, next)
		}
	}
	if sends != "o" {
		t.Errorf("%q send early", sends)
	}
	// Words that are said are of no matter, and stay behind.
	o := baseOf(t, "o")
	if _, sent := impl.SendEarly(o); !slices.Equal(sent, boxesIn(impl.EarlyKey(5, 9), 2, []string{"c"})) {
		t.Errorf("of %v: %v", o, sent)
	}
}

// TestSendEarlyOfEach: all lists of up to 4 words of these lengths, so many of them sent, and each Most around their bytes.
func TestSendEarlyOfEach(t *testing.T) {
	lists := [][]string{nil}
	for begin := 0; begin < len(lists); begin++ {
		list := lists[begin]
		for most := range lengthOf(list) + 3 {
			for ahead := range int64(len(list)) + 1 {
				checkSendEarly(t, "of each", asksWith(t, list, most, ahead))
			}
		}
		if len(list) == 4 {
			continue
		}
		for _, n := range []int{1, 2, 3, 12} {
			lists = append(lists, append(slices.Clone(list), strings.Repeat(string(rune('a'+len(list))), n)))
		}
	}
}

// TestSendEarlyBitByBit: words that are sent as they are said come to the same boxes as all of them at once.
func TestSendEarlyBitByBit(t *testing.T) {
	said := []string{"ab", "c", "defg", "h", "ij", "k"}
	for most := range int64(14) {
		all, want := impl.SendEarly(asksWith(t, said, most, 0))
		for ways := range 1 << len(said) {
			g := asksWith(t, nil, most, 0)
			var boxes []impl.Box
			for i, s := range said {
				g, _ = checkSayEarly(t, "bit by bit", g, s)
				if ways>>i&1 == 1 || i == len(said)-1 {
					next, sent := checkSendEarly(t, "bit by bit", g)
					g, boxes = next, append(boxes, sent...)
				}
			}
			if !slices.Equal(boxes, want) || !sameGuest(g, all) {
				t.Fatalf("of Most %d, way %d: %v, not %v", most, ways, boxes, want)
			}
		}
	}
}

// TestHearOfBases: which bases hear which answer.
func TestHearOfBases(t *testing.T) {
	full, token, early, again := rightAnswers(t)[0], rightAnswers(t)[1], rightAnswers(t)[2], rightAnswers(t)[3]
	spoilt := func(a impl.Answer) impl.Answer {
		return changedAnswer(a, func(a *impl.Answer) { a.Fin = impl.Spoil(a.Fin) })
	}
	picked := func(a impl.Answer, pick int64) impl.Answer {
		return changedAnswer(a, func(a *impl.Answer) { a.Pick = pick })
	}
	for _, c := range []struct {
		name   string
		answer impl.Answer
		want   string
	}{
		{"PkFull", full, "atogh"},
		{"PkToken", token, "toh"},
		{"PkEarly", early, "o"},
		{"PkAgain", again, "ato"},
		{"PkFull of another draw", mustAnswer(t, 9, 13, impl.PkFull, 0), "atogh"},
		{"PkFull of its own draw", mustAnswer(t, 9, 9, impl.PkFull, 0), "atogh"},
		{"PkToken of the largest draw", mustAnswer(t, 9, 100000, impl.PkToken, 5), "toh"},
		{"PkEarly of the least draw", mustAnswer(t, 9, 1, impl.PkEarly, 5), "o"},

		{"PkFull to another one", mustAnswer(t, 10, 12, impl.PkFull, 0), ""},
		{"PkToken to another one", mustAnswer(t, 10, 12, impl.PkToken, 5), ""},
		{"PkEarly to another one", mustAnswer(t, 10, 12, impl.PkEarly, 5), ""},
		{"PkAgain to another one", mustAnswer(t, 10, 0, impl.PkAgain, 0), ""},
		{"PkToken by another secret", mustAnswer(t, 9, 12, impl.PkToken, 6), ""},
		{"PkEarly by another secret", mustAnswer(t, 9, 12, impl.PkEarly, 6), ""},
		{"PkToken by secret 0", impl.Answer{Hello: 9, Draw: 12, Pick: 2, Fin: finOf(0, 9, 12, 2)}, ""},
		{"PkEarly by secret 0", impl.Answer{Hello: 9, Draw: 12, Pick: 3, Fin: finOf(0, 9, 12, 3)}, ""},
		{"PkFull by its secret", impl.Answer{Hello: 9, Draw: 12, Pick: 1, Fin: finOf(5, 9, 12, 1)}, ""},
		{"PkFull, spoilt", spoilt(full), ""},
		{"PkToken, spoilt", spoilt(token), ""},
		{"PkEarly, spoilt", spoilt(early), ""},
		{"PkAgain, spoilt", spoilt(again), ""},
		{"PkFull made of PkToken", picked(token, impl.PkFull), ""},
		{"PkFull made of PkEarly", picked(early, impl.PkFull), ""},
		{"PkToken made of PkEarly", picked(early, impl.PkToken), ""},
		{"PkEarly made of PkToken", picked(token, impl.PkEarly), ""},
		{"PkToken made of PkFull", picked(full, impl.PkToken), ""},
		{"PkAgain made of PkEarly", picked(early, impl.PkAgain), ""},
		{"PkEarly made of PkAgain", picked(again, impl.PkEarly), ""},
		{"PkFull turned to it from another one", changedAnswer(mustAnswer(t, 10, 12, impl.PkFull, 0), func(a *impl.Answer) { a.Hello = 9 }), ""},
		{"PkFull of a draw that was changed", changedAnswer(full, func(a *impl.Answer) { a.Draw = 13 }), ""},
		{"the Fin of another answer", changedAnswer(token, func(a *impl.Answer) { a.Fin = full.Fin }), ""},
		{"PkAgain of a draw", changedAnswer(again, func(a *impl.Answer) { a.Draw = 12 }), ""},
		{"no pick", picked(full, 0), ""},
		{"one past PkAgain", picked(full, 5), ""},
		{"one past PkAgain, nothing else", picked(again, 5), ""},
		{"the zero Answer", noAnswer, ""},
	} {
		got := ""
		for _, b := range guestBases(t) {
			next, h, is := checkHear(t, c.name, b.guest, c.answer, 90)
			if is {
				got += b.letter
			} else if !sameGuest(next, b.guest) || h != noHello {
				t.Errorf("%s, refused by %s: %v is %v, with %v", c.name, b.letter, b.guest, next, h)
			}
		}
		if got != c.want {
			t.Errorf("%s: %q hear it", c.name, got)
		}
	}
}

// TestHearDone: what a Guest is behind an answer that picks something.
func TestHearDone(t *testing.T) {
	answers := rightAnswers(t)
	forth := impl.Row{Key: impl.Key{Use: impl.KyForth, Secret: 5, Hello: 9, Answer: 12}}
	open := impl.Row{Key: impl.Key{Use: impl.KyForth, Hello: 9, Answer: 12}}
	for _, c := range []struct {
		letter string
		pick   int64
		offers bool
		ahead  int64
		row    impl.Row
	}{
		{"a", impl.PkFull, false, 0, open},
		{"t", impl.PkFull, false, 0, open},
		{"t", impl.PkToken, false, 0, forth},
		{"o", impl.PkFull, true, 0, open},
		{"o", impl.PkToken, true, 0, forth},
		{"o", impl.PkEarly, true, 2, forth},
		{"g", impl.PkFull, false, 0, open},
		{"h", impl.PkFull, false, 0, open},
		{"h", impl.PkToken, false, 0, forth},
	} {
		// At any now: no greeting is made behind these.
		for _, now := range talkNows {
			g := baseOf(t, c.letter)
			want := impl.Guest{
				State: impl.GuDone, Draw: 9, Token: g.Token, Offers: c.offers, Pick: c.pick,
				Early: []string{"a", "b", "c"}, Words: []string{"d", "e"}, Ahead: c.ahead, Row: c.row,
			}
			got, h, is := impl.Hear(g, answers[c.pick-1], now)
			if !is || h != noHello || !sameGuest(got, want) || !impl.GuestOk(got) {
				t.Errorf("%s hears %d at %d: %v, %v, %v", c.letter, c.pick, now, got, h, is)
			}
		}
	}
}

// TestHearAgain: who must greet again, greets with its token as long as that is fresh, and offers nothing.
func TestHearAgain(t *testing.T) {
	again := rightAnswers(t)[3]
	for _, letter := range []string{"a", "t", "o"} {
		for _, now := range talkNows {
			g := baseOf(t, letter)
			want := impl.Guest{
				State: impl.GuAgain, Draw: 9, Token: g.Token, Early: []string{"a", "b", "c"}, Words: []string{"d", "e"},
			}
			hello := impl.Hello{Draw: 9, Again: true}
			if letter != "a" && now >= 70 && now <= 170 {
				hello.Seal, hello.Age, hello.Bind = g.Token.Seal, now-70, bindOf(5, 9, true, now-70, false)
			}
			got, h, is := impl.Hear(g, again, now)
			if !is || h != hello || !sameGuest(got, want) || !impl.GuestOk(got) {
				t.Errorf("%s, at %d: %v, %v, %v", letter, now, got, h, is)
			}
			if twice, none, no := impl.Hear(got, again, now); no || none != noHello || !sameGuest(twice, got) {
				t.Errorf("%s, at %d, twice: %v, %v, %v", letter, now, twice, none, no)
			}
		}
	}
}

// TestHearAgainPastAllTimes: a token of the last times is fresh where no age can be told, so there is no greeting with it.
func TestHearAgainPastAllTimes(t *testing.T) {
	again := rightAnswers(t)[3]
	k := mustToken(t, 1, 5, 99999, 100, 20)
	for _, early := range eitherWay {
		g, _, _ := checkOffer(t, "at the last time", mustGuest(t, 9), k, true, early, 100000)
		if _, h, is := checkHear(t, "at the last time", g, again, 100000); !is || h.Age != 1 {
			t.Errorf("at the last time: %v, %v", h, is)
		}
		for _, now := range []int64{100001, 100099} {
			if next, h, is := checkHear(t, "past it", g, again, now); is || h != noHello || !sameGuest(next, g) {
				t.Errorf("at %d: %v, %v, %v", now, next, h, is)
			}
		}
		if _, h, is := checkHear(t, "past its life", g, again, 100100); !is || h != (impl.Hello{Draw: 9, Again: true}) {
			t.Errorf("past its life: %v, %v", h, is)
		}
	}
}

// TestHearOfEach: each base hears each of these answers, right and wrong.
func TestHearOfEach(t *testing.T) {
	fins := answerFins(t)
	heard := map[[2]int64]int{}
	for _, b := range guestBases(t) {
		for _, hello := range []int64{0, 9, 10} {
			for _, draw := range []int64{0, 9, 12} {
				for _, pick := range answerPicks {
					for _, fin := range fins {
						a := impl.Answer{Hello: hello, Draw: draw, Pick: pick, Fin: fin}
						if _, _, is := checkHear(t, "each", b.guest, a, 90); is {
							heard[[2]int64{b.guest.State, pick}]++
						}
					}
				}
			}
		}
	}
	want := map[[2]int64]int{{1, 1}: 3, {1, 2}: 2, {1, 3}: 1, {1, 4}: 3, {2, 1}: 2, {2, 2}: 1}
	if fmt.Sprint(heard) != fmt.Sprint(want) {
		t.Fatalf("heard are %v", heard)
	}
}

// doneGuest is of PkEarly, PkToken or PkFull, with so many words of each kind, so many of them sent ahead and behind.
func doneGuest(t *testing.T, pick int64, early, words []string, ahead, sent int64) impl.Guest {
	t.Helper()
	k := mustToken(t, 1, 5, 70, 100, 20)
	return withItsRow(impl.Guest{
		State: impl.GuDone, Draw: 9, Token: k, Offers: true, Pick: pick, Early: early, Words: words, Ahead: ahead, Sent: sent,
	})
}

func TestSend(t *testing.T) {
	abc, de := []string{"a", "b", "c"}, []string{"d", "e"}
	for _, c := range []struct {
		name         string
		pick         int64
		early, words []string
		ahead, sent  int64
		want         []string
	}{
		{"PkFull, nothing said", impl.PkFull, nil, nil, 0, 0, []string{"end0"}},
		{"PkToken, nothing said", impl.PkToken, nil, nil, 0, 0, []string{"end0"}},
		{"PkEarly, nothing said", impl.PkEarly, nil, nil, 0, 0, []string{"end0"}},
		{"PkFull, Words alone", impl.PkFull, nil, de, 0, 0, []string{"end0", "d", "e"}},
		{"PkFull, Early alone", impl.PkFull, abc, nil, 0, 0, []string{"end0", "a", "b", "c"}},
		{"PkFull, both", impl.PkFull, abc, de, 0, 0, []string{"end0", "a", "b", "c", "d", "e"}},
		{"PkToken, both", impl.PkToken, abc, de, 0, 0, []string{"end0", "a", "b", "c", "d", "e"}},
		{"PkEarly, none ahead", impl.PkEarly, abc, de, 0, 0, []string{"end0", "a", "b", "c", "d", "e"}},
		{"PkEarly, one ahead", impl.PkEarly, abc, de, 1, 0, []string{"end1", "b", "c", "d", "e"}},
		{"PkEarly, two ahead", impl.PkEarly, abc, de, 2, 0, []string{"end2", "c", "d", "e"}},
		{"PkEarly, all ahead", impl.PkEarly, abc, de, 3, 0, []string{"end3", "d", "e"}},
		{"PkEarly, all ahead, no Words", impl.PkEarly, abc, nil, 3, 0, []string{"end3"}},
		{"PkFull, the end sent", impl.PkFull, abc, de, 0, 1, []string{"a", "b", "c", "d", "e"}},
		{"PkFull, some Early sent", impl.PkFull, abc, de, 0, 3, []string{"c", "d", "e"}},
		{"PkFull, all Early sent", impl.PkFull, abc, de, 0, 4, []string{"d", "e"}},
		{"PkToken, all but one sent", impl.PkToken, abc, de, 0, 5, []string{"e"}},
		{"PkToken, all sent", impl.PkToken, abc, de, 0, 6, nil},
		{"PkEarly, two ahead, the end sent", impl.PkEarly, abc, de, 2, 1, []string{"c", "d", "e"}},
		{"PkEarly, two ahead, all Early sent", impl.PkEarly, abc, de, 2, 2, []string{"d", "e"}},
		{"PkEarly, two ahead, all sent", impl.PkEarly, abc, de, 2, 4, nil},
		{"PkEarly, all ahead, all sent", impl.PkEarly, abc, de, 3, 3, nil},
		{"nothing said, the end sent", impl.PkFull, nil, nil, 0, 1, nil},
		{"all alike", impl.PkEarly, []string{"a", "a", "a"}, []string{"a", "a"}, 1, 0, []string{"end1", "a", "a", "a", "a"}},
		{"what looks like an end", impl.PkEarly, []string{"end0", "end9"}, []string{"end2"}, 1, 0, []string{"end1", "end9", "end2"}},
		{"the most of both", impl.PkFull, numbered(20), numbered(20), 0, 0, slices.Concat([]string{"end0"}, numbered(20), numbered(20))},
		{"the most of both, all Early ahead", impl.PkEarly, numbered(20), numbered(20), 20, 0, slices.Concat([]string{"end20"}, numbered(20))},
		{"the most of both, half of Early ahead", impl.PkEarly, numbered(20), numbered(20), 10, 0, slices.Concat([]string{"end10"}, numbered(20)[10:], numbered(20))},
		{"the most of both, all but one sent", impl.PkToken, numbered(20), numbered(20), 0, 40, []string{"w19"}},
		{"the most of both, all sent", impl.PkToken, numbered(20), numbered(20), 0, 41, nil},
	} {
		g := doneGuest(t, c.pick, c.early, c.words, c.ahead, c.sent)
		key := impl.ForthKey(5, 9, 12)
		if c.pick == impl.PkFull {
			key = impl.ForthKey(0, 9, 12)
		}
		got, sent := impl.Send(g)
		all := c.sent + int64(len(c.want))
		want := changedGuest(g, func(g *impl.Guest) { g.Sent, g.Row.No = all, all })
		if !sameGuest(got, want) || !slices.Equal(sent, boxesIn(key, c.sent, c.want)) || !impl.GuestOk(got) {
			t.Errorf("%s: %v, %v", c.name, got, sent)
		}
		checkSend(t, c.name+", the model", g)
		// Called again there is nothing new; behind one more word there is just that.
		again, more := impl.Send(got)
		if !sameGuest(again, got) || len(more) != 0 {
			t.Errorf("%s, again: %v, %v", c.name, again, more)
		}
		said, is := impl.Say(again, "more")
		if is != (len(c.words) < 20) {
			t.Errorf("%s, one more is said: %v", c.name, is)
		}
		if _, more = impl.Send(said); is && !slices.Equal(more, boxesIn(key, all, []string{"more"})) {
			t.Errorf("%s, and one more: %v", c.name, more)
		}
	}
}

// TestSendOfEachState: none but who is done sends anything behind the answer; and whoever does not stays as it is.
func TestSendOfEachState(t *testing.T) {
	for _, said := range [][2]int{{0, 0}, {3, 0}, {0, 2}, {3, 2}, {20, 20}} {
		sends := ""
		for i, g := range guestsLike(t, said[0], said[1]) {
			next, sent := checkSend(t, "each state", g)
			if len(sent) == 1+said[0]+said[1] {
				sends += allBases[i : i+1]
			} else if len(sent) != 0 || !sameGuest(next, g) {
				t.Errorf("of %v: %v, %v", g, next, sent)
			}
		}
		if sends != "fFkKe" {
			t.Errorf("behind %d and %d send %q", said[0], said[1], sends)
		}
	}
}

// TestSendOfEach: each of these counts of words, of those ahead, and of those that were sent.
func TestSendOfEach(t *testing.T) {
	right := 0
	for _, b := range guestBases(t) {
		for early := range 4 {
			for words := range 4 {
				for ahead := range int64(early) + 2 {
					for sent := range int64(early+words) + 3 {
						g := changedGuest(b.guest, fit(func(g *impl.Guest) {
							g.Early, g.Words, g.Ahead, g.Sent = numbered(early), numbered(words), ahead, sent
						}))
						checkSend(t, "of each", g)
						if impl.GuestOk(g) && g.State == impl.GuDone {
							right++
						}
					}
				}
			}
		}
	}
	// Of all counts together Sent has 80 ways where none is ahead, and 180 where PkEarly is picked.
	if right != 4*80+180 {
		t.Fatalf("%d are right", right)
	}
}

// opensInOrder wants that the inn's end of that Row takes all boxes, each by its own number alone.
func opensInOrder(t *testing.T, k impl.Key, boxes []impl.Box, want []string) {
	t.Helper()
	row, heard := impl.TakeAll(impl.Row{Key: k}, boxes)
	if row != (impl.Row{Key: k, No: int64(len(want))}) || !slices.Equal(heard, want) {
		t.Fatalf("the inn's end is %v, and took %q, not %q", row, heard, want)
	}
	for i, b := range boxes {
		for no := range int64(len(boxes)) + 1 {
			if text, open := impl.Opened(b, k, no); open != (no == int64(i)) || open && text != want[i] {
				t.Fatalf("box %d opens as %d: %q, %v", i, no, text, open)
			}
		}
	}
}

// TestTheInnsEndOpensAll: what is sent early and what is sent behind each answer opens in order by the inn's end of the same Row.
func TestTheInnsEndOpensAll(t *testing.T) {
	early, words := numbered(20), slices.Repeat([]string{strings.Repeat("z", 12)}, 20)
	for most := range int64(60) {
		for _, a := range rightAnswers(t)[:3] {
			g := asksWith(t, early, most, 0)
			for _, s := range words {
				g, _ = checkSay(t, "said ahead of the answer", g, s)
			}
			g, ahead := checkSendEarly(t, "ahead", g)
			count := int64(len(ahead))
			if count != impl.Upto(early, most) {
				t.Fatalf("of Most %d there are %d ahead", most, count)
			}
			opensInOrder(t, impl.EarlyKey(5, 9), ahead, early[:count])
			g, _, _ = checkHear(t, "the answer", g, a, 90)
			_, behind := checkSend(t, "behind", g)
			key := impl.NextKey(impl.HandKey(5, 9, 12))
			if a.Pick == impl.PkFull {
				key = impl.NextKey(impl.HandKey(0, 9, 12))
			}
			if a.Pick != impl.PkEarly {
				count = 0
			}
			opensInOrder(t, key, behind, slices.Concat([]string{fmt.Sprintf("end%d", count)}, early[count:], words))
		}
	}
}

// TestShut: each base, with what stays of it.
func TestShut(t *testing.T) {
	for _, b := range guestBases(t) {
		got := impl.Shut(b.guest)
		want := cloneGuest(b.guest)
		want.State, want.Row = impl.GuShut, noRow
		if !sameGuest(got, want) || !impl.GuestOk(got) {
			t.Errorf("of %s: Shut(%v) = %v", b.letter, b.guest, got)
		}
		checkShut(t, "the model of "+b.letter, b.guest)
		if again := impl.Shut(got); !sameGuest(again, got) {
			t.Errorf("of %s, twice: %v", b.letter, again)
		}
	}
	picks := ""
	for _, b := range guestBases(t) {
		picks += fmt.Sprint(impl.Shut(b.guest).Pick)
	}
	// By the letters of the bases: nothing where it was not done, and what it was done by.
	if picks != "0000001122300123" {
		t.Errorf("picks %s", picks)
	}
}

// TestBehindShut: nothing is said, heard or sent any more.
func TestBehindShut(t *testing.T) {
	k := mustToken(t, 1, 5, 70, 100, 20)
	for _, b := range guestBases(t) {
		g := impl.Shut(b.guest)
		if !slices.Equal(impl.AllOf(g), []string{"a", "b", "c", "d", "e"}) {
			t.Errorf("of %s: what was said is %q", b.letter, impl.AllOf(g))
		}
		for _, text := range []string{"x", ""} {
			if next, is := impl.SayEarly(g, text); is || !sameGuest(next, g) {
				t.Errorf("of %s: SayEarly is %v, %v", b.letter, next, is)
			}
			if next, is := impl.Say(g, text); is || !sameGuest(next, g) {
				t.Errorf("of %s: Say is %v, %v", b.letter, next, is)
			}
		}
		for _, has := range eitherWay {
			if next, h, is := impl.Offer(g, k, has, has, 90); is || h != noHello || !sameGuest(next, g) {
				t.Errorf("of %s: Offer is %v, %v, %v", b.letter, next, h, is)
			}
		}
		for _, a := range rightAnswers(t) {
			if next, h, is := impl.Hear(g, a, 90); is || h != noHello || !sameGuest(next, g) {
				t.Errorf("of %s: Hear(%d) is %v, %v, %v", b.letter, a.Pick, next, h, is)
			}
		}
		if next, sent := impl.SendEarly(g); len(sent) != 0 || !sameGuest(next, g) {
			t.Errorf("of %s: SendEarly is %v, %v", b.letter, next, sent)
		}
		if next, sent := impl.Send(g); len(sent) != 0 || !sameGuest(next, g) {
			t.Errorf("of %s: Send is %v, %v", b.letter, next, sent)
		}
	}
}

// TestTalkOfAGuestThatIsNotRight: Hear leaves it as it is, all others answer the zero Guest; and nothing goes out.
func TestTalkOfAGuestThatIsNotRight(t *testing.T) {
	k := mustToken(t, 1, 5, 70, 100, 20)
	for _, g := range wrongGuests(t) {
		for _, has := range eitherWay {
			for _, early := range eitherWay {
				if next, h, is := impl.Offer(g, k, has, early, 90); is || h != noHello || !sameGuest(next, impl.Guest{}) {
					t.Fatalf("Offer of %v is %v, %v, %v", g, next, h, is)
				}
			}
		}
		for _, a := range append(rightAnswers(t), noAnswer) {
			if next, h, is := impl.Hear(g, a, 90); is || h != noHello || !sameGuest(next, g) {
				t.Fatalf("Hear(%v, %v) is %v, %v, %v", g, a, next, h, is)
			}
		}
		if next, sent := impl.SendEarly(g); len(sent) != 0 || !sameGuest(next, impl.Guest{}) {
			t.Fatalf("SendEarly of %v is %v, %v", g, next, sent)
		}
		if next, sent := impl.Send(g); len(sent) != 0 || !sameGuest(next, impl.Guest{}) {
			t.Fatalf("Send of %v is %v, %v", g, next, sent)
		}
		if next := impl.Shut(g); !sameGuest(next, impl.Guest{}) {
			t.Fatalf("Shut of %v is %v", g, next)
		}
		checkTalk(t, "the model of a wrong one", g, k, rightAnswers(t), 90)
	}
}

// talker is a Guest and a book of its own of what was said and sent.
type talker struct {
	guest        impl.Guest
	early, words []string
	// most is how many bytes may go ahead.
	most          int64
	ahead, behind []impl.Box
	pick          int64
}

func (k talker) cloned() talker {
	k.guest = cloneGuest(k.guest)
	k.early, k.words = slices.Clone(k.early), slices.Clone(k.words)
	k.ahead, k.behind = slices.Clone(k.ahead), slices.Clone(k.behind)
	return k
}

// check holds what was sent against what was said, not against what the Guest tells of itself.
func (k talker) check(t *testing.T) {
	t.Helper()
	g := k.guest
	if !impl.GuestOk(g) || !slices.Equal(impl.AllOf(g), slices.Concat(k.early, k.words)) {
		t.Fatalf("%v, but said are %q and %q", g, k.early, k.words)
	}
	went := textsOf(k.ahead)
	if len(went) > len(k.early) || !slices.Equal(went, k.early[:len(went)]) || lengthOf(went) > k.most {
		t.Fatalf("%q went ahead, where %q was said, of %d bytes at most", went, k.early, k.most)
	}
	_, taken := impl.TakeAll(impl.Row{Key: impl.EarlyKey(5, 9)}, k.ahead)
	if !slices.Equal(taken, went) {
		t.Fatalf("of %v the inn's end takes %q", k.ahead, taken)
	}
	k.checkBehind(t)
}

func (k talker) checkBehind(t *testing.T) {
	t.Helper()
	if len(k.behind) == 0 {
		return
	}
	secret, ahead := int64(5), 0
	if k.pick == impl.PkFull {
		secret = 0
	}
	if k.pick == impl.PkEarly {
		ahead = len(k.ahead)
	}
	want := slices.Concat([]string{fmt.Sprintf("end%d", ahead)}, k.early[ahead:], k.words)
	_, taken := impl.TakeAll(impl.Row{Key: impl.ForthKey(secret, 9, 12)}, k.behind)
	if len(taken) != len(k.behind) || len(taken) > len(want) || !slices.Equal(taken, want[:len(taken)]) {
		t.Fatalf("behind answer %d the inn's end takes %q, not %q", k.pick, taken, want)
	}
}

// step does one thing of twelve to it, and tells whether anything became another one by it.
func (k talker) step(t *testing.T, which int, text string) (talker, bool) {
	t.Helper()
	next, is, sent := k.cloned(), false, []impl.Box{}
	token := mustToken(t, 1, 5, 70, 100, k.most)
	switch which {
	case 0:
		if next.guest, is = checkSayEarly(t, "step", k.guest, text); is {
			next.early = append(next.early, text)
		}
	case 1:
		if next.guest, is = checkSay(t, "step", k.guest, text); is {
			next.words = append(next.words, text)
		}
	case 2, 3, 4:
		next.guest, _, is = checkOffer(t, "step", k.guest, token, which > 2, which > 3, 90)
	case 5:
		next.guest, sent = checkSendEarly(t, "step", k.guest)
		next.ahead = append(next.ahead, sent...)
	case 6, 7, 8, 9:
		if next.guest, _, is = checkHear(t, "step", k.guest, rightAnswers(t)[which-6], 90); is {
			next.pick = next.guest.Pick
		}
	case 10:
		next.guest, sent = checkSend(t, "step", k.guest)
		next.behind = append(next.behind, sent...)
		// Whatever was said, all of it is sent now, early or behind the answer.
		if next.guest.State == impl.GuDone && len(next.behind) != 1+len(impl.AllOf(k.guest))-int(k.guest.Ahead) {
			t.Fatalf("of %v only %v was sent", k.guest, next.behind)
		}
	case 11:
		next.guest = checkShut(t, "step", k.guest)
		is = k.guest.State != impl.GuShut
	}
	if !is && len(sent) == 0 && !sameGuest(next.guest, k.guest) {
		t.Fatalf("step %d, refused, makes %v of %v", which, next.guest, k.guest)
	}
	next.check(t)
	return next, is || len(sent) != 0
}

// stepAll does these steps, each of which must do something.
func (k talker) stepAll(t *testing.T, which ...int) talker {
	t.Helper()
	for i, w := range which {
		next, is := k.step(t, w, fmt.Sprintf("s%d", i))
		if !is {
			t.Fatalf("step %d of %d does nothing to %v", i, which, k.guest)
		}
		k = next
	}
	return k
}

// TestNothingIsSentThatWasNotSaid goes all ways of up to 6 steps from several beginnings; what changes nothing is not gone on from.
func TestNothingIsSentThatWasNotSaid(t *testing.T) {
	sent := map[int64]int{}
	var walk func(k talker, steps int)
	walk = func(k talker, steps int) {
		if steps == 0 {
			return
		}
		for which := range 12 {
			next, is := k.step(t, which, fmt.Sprintf("t%d", steps))
			if !is {
				continue
			}
			if which == 10 {
				sent[next.pick]++
			}
			walk(next, steps-1)
		}
	}
	fresh := talker{guest: mustGuest(t, 9), most: 4}
	for _, begin := range []talker{
		fresh,
		{guest: mustGuest(t, 9)},
		fresh.stepAll(t, 0, 4, 5),
		fresh.stepAll(t, 0, 0, 0, 4, 5),
		fresh.stepAll(t, 0, 4, 5, 9),
		fresh.stepAll(t, 0, 0, 1, 4, 5, 8, 10),
	} {
		walk(begin, 5)
	}
	walk(fresh, 6)
	for _, pick := range finPicks {
		if sent[pick] < 100 {
			t.Fatalf("sent behind each pick: %v", sent)
		}
	}
}

// TestLongTalks has many Guests do long rows of things, with texts that are often alike, up to the ends of both lists.
func TestLongTalks(t *testing.T) {
	state, boxes, full := int64(1), 0, 0
	chance := func(n int64) int64 {
		state = (state*1103515245 + 12345) % (1 << 31)
		return state / 65536 % n
	}
	for range 400 {
		k := talker{guest: mustGuest(t, 9), most: chance(101)}
		talks := chance(100)
		for step := range int64(120) {
			which := int(chance(12))
			// Who is shut does nothing any more, and who said other words says no early ones; so these wait.
			if step < talks/2 && which != 5 || which == 11 && step < 110 {
				which = 0
			} else if step < talks && which != 5 {
				which = 1
			}
			k, _ = k.step(t, which, strings.Repeat(string(rune('a'+chance(3))), int(chance(14))))
		}
		boxes += len(k.ahead) + len(k.behind)
		if len(impl.AllOf(k.guest)) == 2*impl.MaxWords {
			full++
		}
	}
	if boxes < 1000 || full < 10 {
		t.Fatalf("%d boxes, %d full", boxes, full)
	}
}

// talkLists are all lists of all answers that may come of a Guest.
func talkLists(t *testing.T, g impl.Guest) ([][]string, [][]impl.Box) {
	t.Helper()
	var texts [][]string
	add := func(g impl.Guest) { texts = append(texts, g.Early, g.Words) }
	k := mustToken(t, 1, 5, 70, 100, 20)
	for _, has := range eitherWay {
		for _, now := range []int64{90, 171} {
			next, _, _ := impl.Offer(g, k, has, has, now)
			add(next)
		}
	}
	for _, a := range append(rightAnswers(t), noAnswer) {
		next, _, _ := impl.Hear(g, a, 90)
		add(next)
	}
	early, ahead := impl.SendEarly(g)
	next, behind := impl.Send(g)
	add(early)
	add(next)
	add(impl.Shut(g))
	return texts, [][]impl.Box{ahead, behind}
}

func TestTalkArgumentsStay(t *testing.T) {
	for _, said := range saidCounts {
		guests, room := oneRoom(t, said[0], said[1])
		given := slices.Clone(room)
		for _, g := range guests {
			kept := cloneGuest(g)
			texts, boxes := talkLists(t, g)
			for _, list := range texts {
				overwrite(list, "overwritten")
			}
			for _, list := range boxes {
				overwrite(list, noBox)
			}
			if !slices.Equal(room, given) || !sameGuest(g, kept) {
				t.Fatalf("of %v now %v, in all %q", kept, g, room)
			}
		}
	}
}

// TestTalkAnswersAreNew: a list stays as it was answered, whatever is done to all other ones and to the argument.
func TestTalkAnswersAreNew(t *testing.T) {
	for _, said := range saidCounts {
		guests, _ := oneRoom(t, said[0], said[1])
		for i, g := range guests {
			wantTexts, wantBoxes := talkLists(t, g)
			for kept := range wantTexts {
				again, room := oneRoom(t, said[0], said[1])
				texts, _ := talkLists(t, again[i])
				for other, list := range texts {
					if other != kept {
						overwrite(list, "overwritten")
					}
				}
				overwrite(room, "overwritten")
				if !slices.Equal(texts[kept], wantTexts[kept]) {
					t.Fatalf("of %v, list %d: now %q, not %q", g, kept, texts[kept], wantTexts[kept])
				}
			}
			for kept := range wantBoxes {
				again, room := oneRoom(t, said[0], said[1])
				_, boxes := talkLists(t, again[i])
				_, others := talkLists(t, again[i])
				overwrite(boxes[1-kept], noBox)
				overwrite(others[kept], noBox)
				overwrite(room, "overwritten")
				if !slices.Equal(boxes[kept], wantBoxes[kept]) {
					t.Fatalf("of %v, boxes %d: now %v, not %v", g, kept, boxes[kept], wantBoxes[kept])
				}
			}
		}
	}
}

// TestTalkAtEachNumber: each number of a Guest, a Token, an Answer and a now is each of these once, and nothing panics.
func TestTalkAtEachNumber(t *testing.T) {
	k, answers := mustToken(t, 1, 5, 70, 100, 20), rightAnswers(t)
	for _, b := range guestBases(t) {
		for _, n := range guestNumbers {
			for _, change := range changesTo(n) {
				checkTalk(t, "each number", changedGuest(b.guest, change), k, answers, 90)
				checkTalk(t, "each number, with its row", changedGuest(b.guest, fit(change)), k, answers, 90)
				// The Token of what was changed, too.
				checkTalk(t, "each number of a token", b.guest, changedGuest(impl.Guest{Token: k}, change).Token, nil, n)
			}
			checkTalk(t, "each now", b.guest, k, answers, n)
			for _, a := range answers {
				for _, change := range []func(a *impl.Answer){
					func(a *impl.Answer) { a.Hello = n },
					func(a *impl.Answer) { a.Draw = n },
					func(a *impl.Answer) { a.Pick = n },
					func(a *impl.Answer) { a.Fin.No = n },
					func(a *impl.Answer) { a.Fin.Key.Use = n },
					func(a *impl.Answer) { a.Fin.Key.Secret = n },
					func(a *impl.Answer) { a.Fin.Key.Hello = n },
					func(a *impl.Answer) { a.Fin.Key.Answer = n },
					func(a *impl.Answer) { *a = impl.Answer{Hello: n, Draw: n, Pick: n, Fin: impl.Box{No: n}} },
				} {
					checkHear(t, "each number of an answer", b.guest, changedAnswer(a, change), n)
				}
			}
		}
	}
}

// TestTalkDoesNotHangOnCallsAhead: what another Guest did ahead of a call is of no matter.
func TestTalkDoesNotHangOnCallsAhead(t *testing.T) {
	k, answers := mustToken(t, 1, 5, 70, 100, 20), rightAnswers(t)
	for range 3 {
		for _, said := range saidCounts {
			for _, g := range guestsLike(t, said[0], said[1]) {
				checkTalk(t, "behind another one", g, k, answers, 90)
			}
		}
		checkTalk(t, "the zero Guest", impl.Guest{}, noToken, []impl.Answer{noAnswer}, 0)
	}
}
