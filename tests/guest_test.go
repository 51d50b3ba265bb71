package tests

import (
	"math"
	"slices"
	"strings"
	"testing"

	"loop.example/g00558/impl"
)

// guestStates are the five, what is one past each end, and what a narrower integer would take for one of them.
var guestStates = []int64{math.MinInt64, -3, -1, 0, 1, 2, 3, 4, 5, 6, 1 << 32, 1<<32 + 3, math.MaxInt64}

// rightTexts and wrongTexts have what is at the edge of a text, and one past it.
var (
	rightTexts = []string{"a", "z", "0", "9", "b", "end", "abc123", strings.Repeat("z", 12)}
	wrongTexts = []string{"", strings.Repeat("z", 13), "A", "Z", "a b", "a-b", "a*", "a\n", "\x00", "\xff", "é", "`", "{", "/", ":", strings.Repeat("a", 5000)}
)

func textIsRight(s string) bool {
	return s != "" && len(s) <= 12 && strings.Trim(s, "abcdefghijklmnopqrstuvwxyz0123456789") == ""
}

// guestIsRight goes through chapter 12, sentence by sentence.
func guestIsRight(g impl.Guest) bool {
	early, words := int64(len(g.Early)), int64(len(g.Words))
	for _, broken := range []bool{
		g.State < 0 || g.State > 4,
		!isDraw(g.Draw),
		g.Token != noToken && !tokenIsRight(g.Token),
		early > 20 || words > 20,
		slices.ContainsFunc(slices.Concat(g.Early, g.Words), func(s string) bool { return !textIsRight(s) }),
		g.State == 0 && g.Token != noToken,
		(g.State == 0 || g.State == 2) && g.Offers,
		g.Offers && g.Token == noToken,
		g.State != 3 && g.State != 4 && g.Pick != 0,
		g.State == 3 && g.Pick == 0,
		g.Pick < 0 || g.Pick > 3,
		(g.Pick == 2 || g.Pick == 3) && g.Token == noToken,
		g.Pick == 3 && !g.Offers,
		g.Ahead < 0 || g.Ahead > early,
		g.Ahead != 0 && (!g.Offers || g.Pick == 1 || g.Pick == 2),
		g.Sent < 0 || g.Sent > 1+(early-g.Ahead)+words,
		g.Sent != 0 && g.Pick == 0,
		g.State == 3 && !isDraw(g.Row.Key.Answer),
		g.Row != rowOfGuest(g, g.Row.Key.Answer),
	} {
		if broken {
			return false
		}
	}
	return true
}

// rowOfGuest is the Row that chapter 12 tells of, where that is the Answer's Draw.
func rowOfGuest(g impl.Guest, answer int64) impl.Row {
	secret := g.Token.Secret
	if g.Pick == 1 {
		secret = 0
	}
	switch {
	case g.State == 1 && g.Offers:
		return impl.Row{Key: impl.Key{Use: impl.KyEarly, Secret: secret, Hello: g.Draw}, No: g.Ahead}
	case g.State == 3:
		return impl.Row{Key: impl.Key{Use: impl.KyForth, Secret: secret, Hello: g.Draw, Answer: answer}, No: g.Sent}
	}
	return noRow
}

// withItsRow is g with the Row it must have, answered by draw 12.
func withItsRow(g impl.Guest) impl.Guest {
	g.Row = rowOfGuest(g, 12)
	return g
}

func sameGuest(a, b impl.Guest) bool {
	return a.State == b.State && a.Draw == b.Draw && a.Token == b.Token && a.Offers == b.Offers && a.Pick == b.Pick &&
		slices.Equal(a.Early, b.Early) && slices.Equal(a.Words, b.Words) && a.Ahead == b.Ahead && a.Sent == b.Sent && a.Row == b.Row
}

func cloneGuest(g impl.Guest) impl.Guest {
	g.Early, g.Words = slices.Clone(g.Early), slices.Clone(g.Words)
	return g
}

func changedGuest(g impl.Guest, change func(g *impl.Guest)) impl.Guest {
	g = cloneGuest(g)
	change(&g)
	return g
}

func wantSayEarly(g impl.Guest, text string) (impl.Guest, bool) {
	if !guestIsRight(g) {
		return impl.Guest{}, false
	}
	if g.State > 2 || len(g.Words) > 0 || !textIsRight(text) || len(g.Early) == 20 {
		return g, false
	}
	return changedGuest(g, func(g *impl.Guest) { g.Early = append(g.Early, text) }), true
}

func wantSay(g impl.Guest, text string) (impl.Guest, bool) {
	if !guestIsRight(g) {
		return impl.Guest{}, false
	}
	if g.State == 4 || !textIsRight(text) || len(g.Words) == 20 {
		return g, false
	}
	return changedGuest(g, func(g *impl.Guest) { g.Words = append(g.Words, text) }), true
}

func wantAllOf(g impl.Guest) []string {
	if !guestIsRight(g) {
		return nil
	}
	return slices.Concat(g.Early, g.Words)
}

func checkGuestOk(t *testing.T, name string, g impl.Guest) bool {
	t.Helper()
	want := guestIsRight(g)
	if got := impl.GuestOk(g); got != want {
		t.Fatalf("%s: GuestOk(%v) = %v", name, g, got)
	}
	return want
}

func checkSayEarly(t *testing.T, name string, g impl.Guest, text string) (impl.Guest, bool) {
	t.Helper()
	want, right := wantSayEarly(g, text)
	got, is := impl.SayEarly(g, text)
	if !sameGuest(got, want) || is != right {
		t.Fatalf("%s: SayEarly(%v, %q) = %v, %v", name, g, text, got, is)
	}
	return got, is
}

func checkSay(t *testing.T, name string, g impl.Guest, text string) (impl.Guest, bool) {
	t.Helper()
	want, right := wantSay(g, text)
	got, is := impl.Say(g, text)
	if !sameGuest(got, want) || is != right {
		t.Fatalf("%s: Say(%v, %q) = %v, %v", name, g, text, got, is)
	}
	return got, is
}

func checkAllOf(t *testing.T, name string, g impl.Guest) {
	t.Helper()
	if got := impl.AllOf(g); !slices.Equal(got, wantAllOf(g)) {
		t.Fatalf("%s: AllOf(%v) = %q", name, g, got)
	}
}

// checkAll asks all that may be asked of a Guest.
func checkAll(t *testing.T, name string, g impl.Guest) bool {
	t.Helper()
	checkSayEarly(t, name, g, "x")
	checkSayEarly(t, name, g, "")
	checkSay(t, name, g, "x")
	checkSay(t, name, g, "")
	checkAllOf(t, name, g)
	return checkGuestOk(t, name, g)
}

func mustGuest(t *testing.T, draw int64) impl.Guest {
	t.Helper()
	g, is := impl.NewGuest(draw)
	if !is {
		t.Fatalf("NewGuest(%d) is false", draw)
	}
	return g
}

// guestBase is a right Guest, told by its letter.
type guestBase struct {
	letter string
	guest  impl.Guest
}

const allBases = "natoghfFkKesS123"

// guestBases are of each State, with and without what a Guest may have there; Early is a, b and c, Words is d and e.
func guestBases(t *testing.T) []guestBase {
	t.Helper()
	k := mustToken(t, 1, 5, 70, 100, 20)
	bases := []guestBase{
		{"n", impl.Guest{}},
		// It asks: without a token, with one, and offering.
		{"a", impl.Guest{State: impl.GuAsks}},
		{"t", impl.Guest{State: impl.GuAsks, Token: k}},
		{"o", impl.Guest{State: impl.GuAsks, Token: k, Offers: true, Ahead: 2}},
		{"g", impl.Guest{State: impl.GuAgain}},
		{"h", impl.Guest{State: impl.GuAgain, Token: k}},
		// It is done: in small letters it did not offer, in large ones it did, but not with that pick.
		{"f", impl.Guest{State: impl.GuDone, Pick: impl.PkFull, Sent: 4}},
		{"F", impl.Guest{State: impl.GuDone, Pick: impl.PkFull, Token: k, Offers: true, Sent: 4}},
		{"k", impl.Guest{State: impl.GuDone, Pick: impl.PkToken, Token: k, Sent: 4}},
		{"K", impl.Guest{State: impl.GuDone, Pick: impl.PkToken, Token: k, Offers: true, Sent: 4}},
		{"e", impl.Guest{State: impl.GuDone, Pick: impl.PkEarly, Token: k, Offers: true, Ahead: 2, Sent: 3}},
		// It is shut: as it was new, as it offered, and as it was done by each pick.
		{"s", impl.Guest{State: impl.GuShut}},
		{"S", impl.Guest{State: impl.GuShut, Token: k, Offers: true, Ahead: 2}},
		{"1", impl.Guest{State: impl.GuShut, Pick: impl.PkFull, Sent: 4}},
		{"2", impl.Guest{State: impl.GuShut, Pick: impl.PkToken, Token: k, Sent: 4}},
		{"3", impl.Guest{State: impl.GuShut, Pick: impl.PkEarly, Token: k, Offers: true, Ahead: 2, Sent: 3}},
	}
	for i := range bases {
		g := &bases[i].guest
		g.Draw, g.Early, g.Words = 9, []string{"a", "b", "c"}, []string{"d", "e"}
		*g = withItsRow(*g)
	}
	return bases
}

// guestsLike are the bases with so many Early and so many Words, and nothing sent ahead or behind.
func guestsLike(t *testing.T, early, words int) []impl.Guest {
	t.Helper()
	var list []impl.Guest
	for _, b := range guestBases(t) {
		list = append(list, changedGuest(b.guest, func(g *impl.Guest) {
			g.Early, g.Words, g.Ahead, g.Sent = numbered(early), numbered(words), 0, 0
			*g = withItsRow(*g)
		}))
	}
	return list
}

func TestGuestConstants(t *testing.T) {
	got := []int64{impl.GuNew, impl.GuAsks, impl.GuAgain, impl.GuDone, impl.GuShut, impl.MaxWords}
	if want := []int64{0, 1, 2, 3, 4, 20}; !slices.Equal(got, want) {
		t.Fatalf("%d", got)
	}
}

// guestChange makes one thing of a right Guest another one; right are the letters of the bases that stay right by it.
type guestChange struct {
	name   string
	right  string
	change func(g *impl.Guest)
}

func (c guestChange) check(t *testing.T, bases []guestBase) {
	t.Helper()
	for _, b := range bases {
		g := changedGuest(b.guest, c.change)
		want := strings.Contains(c.right, b.letter)
		if got := impl.GuestOk(g); got != want {
			t.Errorf("%s, of %s: GuestOk(%v) = %v", c.name, b.letter, g, got)
		}
		if guestIsRight(g) != want {
			t.Errorf("%s, of %s: the model", c.name, b.letter)
		}
	}
}

func checkChanges(t *testing.T, changes []guestChange) {
	t.Helper()
	bases := guestBases(t)
	for _, c := range changes {
		c.check(t, bases)
	}
}

// fit makes the Row follow what was changed ahead of it, so that it is not what makes a Guest wrong.
func fit(change func(g *impl.Guest)) func(g *impl.Guest) {
	return func(g *impl.Guest) {
		change(g)
		*g = withItsRow(*g)
	}
}

func TestGuestOkOfBases(t *testing.T) {
	letters := ""
	for _, b := range guestBases(t) {
		letters += b.letter
		if !impl.GuestOk(b.guest) || !guestIsRight(b.guest) {
			t.Errorf("%s: GuestOk(%v) = %v", b.letter, b.guest, impl.GuestOk(b.guest))
		}
	}
	if letters != allBases {
		t.Fatalf("bases %s", letters)
	}
	if impl.GuestOk(impl.Guest{}) {
		t.Error("GuestOk of the zero Guest")
	}
}

func TestGuestOkByState(t *testing.T) {
	state := func(n int64) func(g *impl.Guest) { return func(g *impl.Guest) { g.State = n } }
	checkChanges(t, []guestChange{
		{"as it is", allBases, func(g *impl.Guest) {}},
		{"GuNew", "nags", state(0)},
		{"GuNew, with its row", "nags", fit(state(0))},
		{"GuAsks", "natoghs", state(1)},
		{"GuAsks, with its row", "natoghsS", fit(state(1))},
		{"GuAgain", "natghs", state(2)},
		{"GuAgain, with its row", "natghs", fit(state(2))},
		{"GuDone", "fFkKe", state(3)},
		{"GuDone, with its row", "fFkKe123", fit(state(3))},
		{"GuShut", "natghsS123", state(4)},
		{"GuShut, with its row", allBases, fit(state(4))},
		{"one below GuNew", "", state(-1)},
		{"one below GuNew, with its row", "", fit(state(-1))},
		{"one past GuShut", "", state(5)},
		{"one past GuShut, with its row", "", fit(state(5))},
		{"the least State", "", fit(state(math.MinInt64))},
		{"the largest State", "", fit(state(math.MaxInt64))},
		{"GuShut in its low bytes", "", fit(state(1<<32 + 4))},
	})
}

func TestGuestOkByDraw(t *testing.T) {
	draw := func(n int64) func(g *impl.Guest) { return func(g *impl.Guest) { g.Draw = n } }
	changes := []guestChange{
		{"another draw", "natghsS123", draw(10)},
		{"another draw, with its row", allBases, fit(draw(10))},
		{"the least draw", allBases, fit(draw(1))},
		{"the largest draw", allBases, fit(draw(100000))},
	}
	for _, n := range noDraws {
		changes = append(changes,
			guestChange{"no draw", "", draw(n)},
			guestChange{"no draw, with its row", "", fit(draw(n))},
		)
	}
	checkChanges(t, changes)
}

func TestGuestOkByToken(t *testing.T) {
	token := func(k impl.Token) func(g *impl.Guest) { return func(g *impl.Guest) { g.Token = k } }
	other, k := mustToken(t, 2, 6, 0, 1, 0), mustToken(t, 1, 5, 70, 100, 20)
	spoilt := k
	spoilt.Seal = impl.Spoil(k.Seal)
	changes := []guestChange{
		{"no token", "natghfs1", token(noToken)},
		{"no token, with its row", "natghfs1", fit(token(noToken))},
		{"that token", "atoghfFkKesS123", token(k)},
		{"another token", "atghfFsS123", token(other)},
		{"another token, with its row", "atoghfFkKesS123", fit(token(other))},
		{"the least token", "atoghfFkKesS123", fit(token(mustToken(t, 0, 1, 0, 1, 0)))},
		{"the largest token", "atoghfFkKesS123", fit(token(mustToken(t, 100000, 100000, 100000, 1000, 100)))},
		{"a spoilt seal, which is a right one", "atoghfFkKesS123", token(spoilt)},
		{"a seal alone", "", token(impl.Token{Seal: k.Seal})},
		{"a spoilt zero seal alone", "", token(impl.Token{Seal: impl.Spoil(noBox)})},
		{"a secret alone", "", token(impl.Token{Secret: 5})},
		{"Most alone", "", token(impl.Token{Most: 20})},
	}
	for _, wrong := range wrongTokens(t) {
		if wrong != noToken {
			changes = append(changes,
				guestChange{"a wrong token", "", token(wrong)},
				guestChange{"a wrong token, with its row", "", fit(token(wrong))},
			)
		}
	}
	checkChanges(t, changes)
}

func TestGuestOkByOffers(t *testing.T) {
	k := mustToken(t, 1, 5, 70, 100, 20)
	offers := func(g *impl.Guest) { g.Offers = true }
	offersIt := func(g *impl.Guest) { g.Offers, g.Token = true, k }
	not := func(g *impl.Guest) { g.Offers = false }
	notAhead := func(g *impl.Guest) { g.Offers, g.Ahead = false, 0 }
	checkChanges(t, []guestChange{
		{"it offers", "oFkKeS23", offers},
		{"it offers, with its row", "toFkKeS23", fit(offers)},
		{"it offers with a token", "ofFkKesS123", offersIt},
		{"it offers with a token, with its row", "atofFkKesS123", fit(offersIt)},
		{"it does not offer", "natghfFkKs12", not},
		{"it does not offer, with its row", "natghfFkKs12", fit(not)},
		{"it does not offer, none ahead", "natghfFkKsS12", notAhead},
		{"it does not offer, none ahead, with its row", "natoghfFkKsS12", fit(notAhead)},
	})
}

func TestGuestOkByPick(t *testing.T) {
	pick := func(n int64) func(g *impl.Guest) { return func(g *impl.Guest) { g.Pick = n } }
	bare := func(n int64) func(g *impl.Guest) {
		return fit(func(g *impl.Guest) { g.Pick, g.Ahead, g.Sent = n, 0, 0 })
	}
	changes := []guestChange{
		{"nothing picked", "natoghsS", pick(0)},
		{"nothing picked, with its row", "natoghsS", fit(pick(0))},
		{"nothing picked, none ahead or behind", "natoghsS123", bare(0)},
		{"nothing picked, none behind", "natoghsS123", fit(func(g *impl.Guest) { g.Pick, g.Sent = 0, 0 })},
		{"PkFull", "fFs12", pick(1)},
		{"PkFull, with its row", "fFkKs12", fit(pick(1))},
		{"PkFull, none ahead or behind", "fFkKesS123", bare(1)},
		{"PkToken", "kK2", pick(2)},
		{"PkToken, with its row", "FkK2", fit(pick(2))},
		{"PkToken, none ahead or behind", "FkKeS23", bare(2)},
		{"PkEarly", "KeS3", pick(3)},
		{"PkEarly, with its row", "FKeS3", fit(pick(3))},
		{"PkEarly, none ahead or behind", "FKeS3", bare(3)},
	}
	for _, n := range eachPick {
		if n < 0 || n > 3 {
			changes = append(changes,
				guestChange{"a wrong pick", "", pick(n)},
				guestChange{"a wrong pick, with its row", "", fit(pick(n))},
				guestChange{"a wrong pick, none ahead or behind", "", bare(n)},
			)
		}
	}
	checkChanges(t, changes)
}

func TestGuestOkByWords(t *testing.T) {
	early := func(list []string) func(g *impl.Guest) { return func(g *impl.Guest) { g.Early = list } }
	words := func(list []string) func(g *impl.Guest) { return func(g *impl.Guest) { g.Words = list } }
	none := func(g *impl.Guest) { g.Ahead, g.Sent = 0, 0 }
	changes := []guestChange{
		{"no Early", "natghs", early(nil)},
		{"an empty Early", "natghs", early([]string{})},
		{"no Early, none ahead or behind", allBases, fit(func(g *impl.Guest) { g.Early = nil; none(g) })},
		{"one Early", "natghfFkKs12", early(numbered(1))},
		{"one Early, none ahead or behind", allBases, fit(func(g *impl.Guest) { g.Early = numbered(1); none(g) })},
		{"two Early", allBases, early(numbered(2))},
		{"one less than the most Early", allBases, early(numbered(19))},
		{"the most Early", allBases, early(numbered(20))},
		{"one more Early than the most", "", early(numbered(21))},
		{"far more Early", "", early(numbered(500))},
		{"no Words", "natoghfFkKsS12", words(nil)},
		{"no Words, none ahead or behind", allBases, fit(func(g *impl.Guest) { g.Words = nil; none(g) })},
		{"one Word", allBases, words(numbered(1))},
		{"one less than the most Words", allBases, words(numbered(19))},
		{"the most Words", allBases, words(numbered(20))},
		{"one more Word than the most", "", words(numbered(21))},
		{"far more Words", "", words(numbered(500))},
		{"the most of both", allBases, func(g *impl.Guest) { g.Early, g.Words = numbered(20), numbered(20) }},
		{"one more of both", "", func(g *impl.Guest) { g.Early, g.Words = numbered(21), numbered(21) }},
		{"no Early, no Words, none ahead or behind", allBases, fit(func(g *impl.Guest) { g.Early, g.Words = nil, nil; none(g) })},
		{"all alike", allBases, func(g *impl.Guest) { g.Early, g.Words = []string{"a", "a", "a"}, []string{"a", "a"} }},
	}
	put := func(s string, right string) {
		for i := range 3 {
			changes = append(changes, guestChange{"in Early " + s, right, func(g *impl.Guest) { g.Early[i] = s }})
		}
		for i := range 2 {
			changes = append(changes, guestChange{"in Words " + s, right, func(g *impl.Guest) { g.Words[i] = s }})
		}
		changes = append(changes,
			guestChange{"at the end of the most Early " + s, right, early(append(numbered(19), s))},
			guestChange{"at the end of the most Words " + s, right, words(append(numbered(19), s))},
		)
	}
	for _, s := range rightTexts {
		put(s, allBases)
	}
	for _, s := range wrongTexts {
		put(s, "")
	}
	checkChanges(t, changes)
}

func TestGuestOkByAhead(t *testing.T) {
	ahead := func(n int64) func(g *impl.Guest) { return func(g *impl.Guest) { g.Ahead = n } }
	// Of who sent nothing behind the answer all may be ahead.
	bare := func(n int64) func(g *impl.Guest) { return fit(func(g *impl.Guest) { g.Ahead, g.Sent = n, 0 }) }
	changes := []guestChange{
		{"none ahead", "natghfFkKesS123", ahead(0)},
		{"none ahead, with its row", allBases, fit(ahead(0))},
		{"one ahead", "eS3", ahead(1)},
		{"one ahead, with its row", "oeS3", fit(ahead(1))},
		{"two ahead", "oeS3", ahead(2)},
		{"all ahead", "eS3", ahead(3)},
		{"all ahead, with its row", "oeS3", fit(ahead(3))},
		{"all ahead, none behind", "oeS3", bare(3)},
		{"all of the most ahead", "oeS3", fit(func(g *impl.Guest) { g.Early, g.Ahead = numbered(20), 20 })},
		{"one more ahead than the most", "", fit(func(g *impl.Guest) { g.Early, g.Ahead = numbered(20), 21 })},
		{"one ahead of none", "", fit(func(g *impl.Guest) { g.Early, g.Ahead, g.Sent = nil, 1, 0 })},
		{"one more than all ahead", "", ahead(4)},
		{"one more than all ahead, with its row", "", fit(ahead(4))},
		{"one more than all ahead, none behind", "", bare(4)},
		{"as many as all texts ahead", "", bare(5)},
	}
	for _, n := range []int64{math.MinInt64, math.MinInt64 + 3, -3, -1, 1<<32 + 2, math.MaxInt64 - 6, math.MaxInt64} {
		changes = append(changes,
			guestChange{"out of range", "", ahead(n)},
			guestChange{"out of range, with its row", "", fit(ahead(n))},
			guestChange{"out of range, none behind", "", bare(n)},
		)
	}
	checkChanges(t, changes)
}

func TestGuestOkBySent(t *testing.T) {
	sent := func(n int64) func(g *impl.Guest) { return func(g *impl.Guest) { g.Sent = n } }
	full := func(early, words int, n int64) func(g *impl.Guest) {
		return fit(func(g *impl.Guest) { g.Early, g.Words, g.Sent = numbered(early), numbered(words), n })
	}
	changes := []guestChange{
		{"none", "natoghsS123", sent(0)},
		{"none, with its row", allBases, fit(sent(0))},
		{"the end alone", "123", sent(1)},
		{"the end alone, with its row", "fFkKe123", fit(sent(1))},
		{"all behind early words", "fFkK123", sent(4)},
		{"all behind early words, with its row", "fFkKe123", fit(sent(4))},
		{"one past that", "12", sent(5)},
		{"one past that, with its row", "fFkK12", fit(sent(5))},
		{"all", "12", sent(6)},
		{"all, with its row", "fFkK12", fit(sent(6))},
		{"one past all", "", sent(7)},
		{"one past all, with its row", "", fit(sent(7))},
		{"the end and the most Early and Words", "fFkK12", full(20, 20, 41)},
		{"one more", "", full(20, 20, 42)},
		{"the same behind two that were ahead", "fFkKe123", full(20, 20, 39)},
		{"one more behind two that were ahead", "fFkK12", full(20, 20, 40)},
		{"Early and the end alone", "fFkK12", full(5, 0, 6)},
		{"Early, the end and one more", "", full(5, 0, 7)},
		{"Early that is all ahead, the end and one more", "fFkK12", full(2, 0, 2)},
		{"Early that is all ahead, and the end", "fFkKe123", full(2, 0, 1)},
		{"the end alone of nothing said", "fFkKe123", fit(func(g *impl.Guest) { g.Early, g.Words, g.Ahead, g.Sent = nil, nil, 0, 1 })},
		{"the end and one more of nothing said", "", fit(func(g *impl.Guest) { g.Early, g.Words, g.Ahead, g.Sent = nil, nil, 0, 2 })},
		{"none ahead, one past all", "", fit(func(g *impl.Guest) { g.Ahead, g.Sent = 0, 7 })},
		{"none ahead, all", "fFkKe123", fit(func(g *impl.Guest) { g.Ahead, g.Sent = 0, 6 })},
		{"all ahead, the end and Words", "e3", fit(func(g *impl.Guest) { g.Ahead, g.Sent = 3, 3 })},
		{"all ahead, the end, Words and one more", "", fit(func(g *impl.Guest) { g.Ahead, g.Sent = 3, 4 })},
		{"one more than all ahead, and so many less", "", fit(func(g *impl.Guest) { g.Ahead, g.Sent = 4, 2 })},
		{"less than none ahead, and so many more", "", fit(func(g *impl.Guest) { g.Ahead, g.Sent = -1, 7 })},
	}
	for _, n := range []int64{math.MinInt64, -4, -3, -1, 1 << 32, 1<<32 + 3, 1<<32 + 4, math.MaxInt64} {
		changes = append(changes,
			guestChange{"out of range", "", sent(n)},
			guestChange{"out of range, with its row", "", fit(sent(n))},
		)
	}
	checkChanges(t, changes)
}

func TestGuestOkByRow(t *testing.T) {
	row := func(f func(g *impl.Guest) impl.Row) func(g *impl.Guest) { return func(g *impl.Guest) { g.Row = f(g) } }
	answer := func(n int64) func(g *impl.Guest) { return func(g *impl.Guest) { g.Row.Key.Answer = n } }
	const noRows = "natghsS123"
	changes := []guestChange{
		{"the zero Row", noRows, row(func(g *impl.Guest) impl.Row { return noRow })},
		{"the zero Key, but its number", noRows, row(func(g *impl.Guest) impl.Row { return impl.Row{No: g.Row.No} })},
		{"the zero Key and number 1", "", row(func(g *impl.Guest) impl.Row { return impl.Row{No: 1} })},
		{"the zero Key and number Sent", "natghsS", row(func(g *impl.Guest) impl.Row { return impl.Row{No: g.Sent} })},
		{"early", "o", row(func(g *impl.Guest) impl.Row { return impl.Row{Key: impl.EarlyKey(5, 9), No: g.Ahead} })},
		{"early, by secret 0", "", row(func(g *impl.Guest) impl.Row { return impl.Row{Key: impl.EarlyKey(0, 9), No: g.Ahead} })},
		{"early, number Sent", "", row(func(g *impl.Guest) impl.Row { return impl.Row{Key: impl.EarlyKey(5, 9), No: g.Sent} })},
		{"forth", "kKe", row(func(g *impl.Guest) impl.Row { return impl.Row{Key: impl.ForthKey(5, 9, 12), No: g.Sent} })},
		{"forth, by secret 0", "fF", row(func(g *impl.Guest) impl.Row { return impl.Row{Key: impl.ForthKey(0, 9, 12), No: g.Sent} })},
		{"forth, number Ahead", "", row(func(g *impl.Guest) impl.Row { return impl.Row{Key: impl.ForthKey(5, 9, 12), No: g.Ahead} })},
		{"back", "", row(func(g *impl.Guest) impl.Row {
			return impl.Row{Key: impl.BackKey(g.Row.Key.Secret, 9, 12), No: g.Row.No}
		})},
		{"hand", "", row(func(g *impl.Guest) impl.Row {
			return impl.Row{Key: impl.HandKey(g.Row.Key.Secret, 9, 12), No: g.Row.No}
		})},
		{"bind", "", row(func(g *impl.Guest) impl.Row { return impl.Row{Key: impl.BindKey(5, 9), No: g.Row.No} })},
		{"token", "", row(func(g *impl.Guest) impl.Row { return impl.Row{Key: impl.TokenKey(5), No: g.Row.No} })},
		{"another secret", "", func(g *impl.Guest) { g.Row.Key.Secret = 6 }},
		{"secret 0", noRows + "fF", func(g *impl.Guest) { g.Row.Key.Secret = 0 }},
		{"another Hello", "", func(g *impl.Guest) { g.Row.Key.Hello = 10 }},
		{"no Hello", noRows, func(g *impl.Guest) { g.Row.Key.Hello = 0 }},
		{"no use", noRows, func(g *impl.Guest) { g.Row.Key.Use = 0 }},
		{"one less", "", func(g *impl.Guest) { g.Row.No-- }},
		{"one more", "", func(g *impl.Guest) { g.Row.No++ }},
		{"number 0", noRows, func(g *impl.Guest) { g.Row.No = 0 }},
		{"the largest number", "", func(g *impl.Guest) { g.Row.No = 1000 }},
		{"the least int64", "", func(g *impl.Guest) { g.Row.No = math.MinInt64 }},
		{"the largest int64", "", func(g *impl.Guest) { g.Row.No = math.MaxInt64 }},
		{"another answer", "fFkKe", answer(13)},
		{"the least answer", "fFkKe", answer(1)},
		{"the largest answer", "fFkKe", answer(100000)},
		{"an answer of its own draw", "fFkKe", answer(9)},
		{"an answer of its secret", "fFkKe", answer(5)},
		{"no answer", noRows + "o", answer(0)},
		{"Hello and answer changed about", noRows, func(g *impl.Guest) { g.Row.Key.Hello, g.Row.Key.Answer = g.Row.Key.Answer, g.Row.Key.Hello }},
	}
	for _, n := range noDraws {
		if n != 0 {
			changes = append(changes, guestChange{"an answer that is no draw", "", answer(n)})
		}
	}
	checkChanges(t, changes)
}

// TestGuestsOfEach: each of these States, tokens, picks, lists, counts and rows together.
func TestGuestsOfEach(t *testing.T) {
	k := mustToken(t, 1, 5, 70, 100, 20)
	wrong := k
	wrong.Most = 21
	var right [5][4]int
	for _, state := range []int64{-1, 0, 1, 2, 3, 4, 5} {
		for _, token := range []impl.Token{noToken, k, wrong} {
			for _, pick := range []int64{-1, 0, 1, 2, 3, 4} {
				for _, said := range [][2]int{{0, 0}, {0, 1}, {1, 0}, {2, 1}} {
					g := impl.Guest{State: state, Draw: 9, Token: token, Pick: pick, Early: numbered(said[0]), Words: numbered(said[1])}
					eachCount(g, func(g impl.Guest) {
						if checkGuestOk(t, "each", g) {
							right[g.State][g.Pick]++
						}
					})
				}
			}
		}
	}
	// Of the 4 ways to have said something Sent has 13 ways where none is ahead, Ahead 7 where none is behind, and both 22 together.
	// Who does not offer may have a token or none, who offers has one.
	if right != [5][4]int{{4}, {2*4 + 7}, {2 * 4}, {0, 3 * 13, 2 * 13, 22}, {2*4 + 7, 3 * 13, 2 * 13, 22}} {
		t.Fatalf("right are %d", right)
	}
}

// eachCount has g with each count around its ends, offering or not, in each of some rows.
func eachCount(g impl.Guest, f func(impl.Guest)) {
	for _, offers := range eitherWay {
		for ahead := int64(-1); ahead <= int64(len(g.Early))+1; ahead++ {
			for sent := int64(-1); sent <= int64(len(g.Early)+len(g.Words))+2; sent++ {
				g.Offers, g.Ahead, g.Sent = offers, ahead, sent
				for _, r := range []impl.Row{
					noRow, {No: 1}, {Key: impl.EarlyKey(5, 9), No: ahead}, {Key: impl.EarlyKey(5, 9), No: ahead + 1},
					{Key: impl.ForthKey(5, 9, 12), No: sent}, {Key: impl.ForthKey(0, 9, 12), No: sent}, {Key: impl.ForthKey(5, 9, 12), No: sent + 1},
				} {
					g.Row = r
					f(g)
				}
			}
		}
	}
}

func TestNewGuest(t *testing.T) {
	for _, draw := range []int64{1, 2, 9, 50000, 99999, 100000} {
		g, is := impl.NewGuest(draw)
		if !is || !sameGuest(g, impl.Guest{Draw: draw}) || !checkAll(t, "new", g) {
			t.Errorf("NewGuest(%d) = %v, %v", draw, g, is)
		}
	}
	for _, draw := range append(slices.Clone(noDraws), math.MinInt64+9, 100002) {
		if g, is := impl.NewGuest(draw); is || !sameGuest(g, impl.Guest{}) {
			t.Errorf("NewGuest(%d) = %v, %v", draw, g, is)
		}
	}
}

// TestWhoMaySay: which of the bases may say more, with Words and without.
func TestWhoMaySay(t *testing.T) {
	for _, c := range []struct {
		name         string
		early, words int
		text         string
		// The letters of those whose text is taken.
		takesEarly, takes string
	}{
		{"nothing said", 0, 0, "x", "natogh", "natoghfFkKe"},
		{"some Early", 3, 0, "x", "natogh", "natoghfFkKe"},
		{"one Word", 0, 1, "x", "", "natoghfFkKe"},
		{"some of both", 3, 2, "x", "", "natoghfFkKe"},
		{"Early has room for one", 19, 0, "x", "natogh", "natoghfFkKe"},
		{"Early has no room", 20, 0, "x", "", "natoghfFkKe"},
		{"Words has room for one", 3, 19, "x", "", "natoghfFkKe"},
		{"Words has no room", 3, 20, "x", "", ""},
		{"Words has room for one, Early has none", 20, 19, "x", "", "natoghfFkKe"},
		{"none has room", 20, 20, "x", "", ""},
		{"what was said already", 3, 0, "w0", "natogh", "natoghfFkKe"},
		{"the longest text", 3, 0, strings.Repeat("z", 12), "natogh", "natoghfFkKe"},
		{"one byte more", 3, 0, strings.Repeat("z", 13), "", ""},
		{"no text", 3, 0, "", "", ""},
		{"no text, into nothing", 0, 0, "", "", ""},
		{"a wrong byte", 3, 0, "aB", "", ""},
		{"no text, and no room", 20, 20, "", "", ""},
	} {
		gotEarly, got := "", ""
		for i, g := range guestsLike(t, c.early, c.words) {
			if _, is := checkSayEarly(t, c.name, g, c.text); is {
				gotEarly += allBases[i : i+1]
			}
			if _, is := checkSay(t, c.name, g, c.text); is {
				got += allBases[i : i+1]
			}
		}
		if gotEarly != c.takesEarly || got != c.takes {
			t.Errorf("%s: early is taken from %q, others from %q", c.name, gotEarly, got)
		}
	}
}

// TestSayBehindWhatWasSent: whatever was sent, ahead of the answer or behind it, keeps nobody from saying more.
func TestSayBehindWhatWasSent(t *testing.T) {
	right := 0
	for _, b := range guestBases(t) {
		for words := range 3 {
			for ahead := range int64(5) {
				for sent := range int64(9) {
					g := changedGuest(b.guest, func(g *impl.Guest) {
						g.Words, g.Ahead, g.Sent = numbered(words), ahead, sent
						*g = withItsRow(*g)
					})
					_, early := checkSayEarly(t, "behind what was sent", g, "x")
					_, others := checkSay(t, "behind what was sent", g, "x")
					checkAllOf(t, "behind what was sent", g)
					if !checkGuestOk(t, "behind what was sent", g) {
						continue
					}
					right++
					mayEarly := words == 0 && strings.Contains("natogh", b.letter)
					if early != mayEarly || others != strings.Contains("natoghfFkKe", b.letter) {
						t.Fatalf("of %s, %v: early is taken %v, others %v", b.letter, g, early, others)
					}
				}
			}
		}
	}
	// Of 3 counts of Words: 6 bases send nothing, 2 ahead alone, 6 behind alone, 2 both.
	if right != 6*3+2*3*4+6*(5+6+7)+2*(18+15+12+9) {
		t.Fatalf("%d are right", right)
	}
}

func TestSayEachText(t *testing.T) {
	texts := append(slices.Clone(rightTexts), wrongTexts...)
	for n := range 256 {
		texts = append(texts, string([]byte{byte(n)}), "a"+string([]byte{byte(n)})+"b")
	}
	for n := range 30 {
		texts = append(texts, strings.Repeat("q", n))
	}
	early, others := 0, 0
	for _, g := range append(guestsLike(t, 2, 0), guestsLike(t, 2, 2)...) {
		for _, text := range texts {
			if next, is := checkSayEarly(t, "each text", g, text); is {
				early++
				checkGuestOk(t, "behind it", next)
			}
			if next, is := checkSay(t, "each text", g, text); is {
				others++
				checkGuestOk(t, "behind it", next)
			}
		}
	}
	// Of 36 bytes alone and between others, of 12 lengths, and of the right texts.
	if each := 36 + 36 + 12 + len(rightTexts); early != 6*each || others != 2*11*each {
		t.Fatalf("%d were taken early, %d else", early, others)
	}
}

// wrongGuests are made of each base, with and without what it said, by one thing that makes it wrong.
func wrongGuests(t *testing.T) []impl.Guest {
	t.Helper()
	k := mustToken(t, 1, 5, 70, 100, 20)
	var wrong []impl.Guest
	for _, b := range guestBases(t) {
		for _, lists := range [][2][]string{{nil, nil}, {numbered(3), nil}, {numbered(3), numbered(2)}} {
			for _, change := range []func(g *impl.Guest){
				func(g *impl.Guest) { *g = impl.Guest{} },
				func(g *impl.Guest) { g.State = -1 },
				func(g *impl.Guest) { g.State = 5 },
				func(g *impl.Guest) { g.State = math.MaxInt64 },
				func(g *impl.Guest) { g.Draw = 0 },
				func(g *impl.Guest) { g.Draw = 100001 },
				func(g *impl.Guest) { g.Draw = math.MinInt64 },
				func(g *impl.Guest) { g.Token.Life = 1001 },
				func(g *impl.Guest) { g.Token.Seal.Spoilt, g.Token.Secret = true, 6 },
				func(g *impl.Guest) { g.State, g.Offers = impl.GuNew, true },
				func(g *impl.Guest) { g.State, g.Offers, g.Token = impl.GuAgain, true, k },
				func(g *impl.Guest) { g.Pick = impl.PkAgain },
				func(g *impl.Guest) { g.Pick = -1 },
				func(g *impl.Guest) { g.Early = numbered(21) },
				func(g *impl.Guest) { g.Early = []string{"a", "B"} },
				func(g *impl.Guest) { g.Words = numbered(21) },
				func(g *impl.Guest) { g.Words = []string{""} },
				func(g *impl.Guest) { g.Ahead = -1 },
				func(g *impl.Guest) { g.Ahead = math.MaxInt64 },
				func(g *impl.Guest) { g.Sent = -1 },
				func(g *impl.Guest) { g.Sent = 7 },
				func(g *impl.Guest) { g.Sent = math.MinInt64 },
				func(g *impl.Guest) { g.Row = impl.Row{Key: impl.TokenKey(5)} },
				func(g *impl.Guest) { g.Row = impl.Row{No: 9} },
			} {
				wrong = append(wrong, changedGuest(b.guest, func(g *impl.Guest) {
					g.Early, g.Words, g.Ahead, g.Sent = slices.Clone(lists[0]), slices.Clone(lists[1]), 0, 0
					*g = withItsRow(*g)
					change(g)
				}))
			}
		}
	}
	if len(wrong) != 16*3*24 {
		t.Fatalf("%d are wrong", len(wrong))
	}
	return wrong
}

// TestOfAGuestThatIsNotRight: whatever is wrong with it, nothing is answered of it.
func TestOfAGuestThatIsNotRight(t *testing.T) {
	for _, g := range wrongGuests(t) {
		early, is := impl.SayEarly(g, "x")
		others, also := impl.Say(g, "x")
		if is || also || !sameGuest(early, impl.Guest{}) || !sameGuest(others, impl.Guest{}) || len(impl.AllOf(g)) != 0 {
			t.Fatalf("of %v: %v, %v; %v, %v; %q", g, early, is, others, also, impl.AllOf(g))
		}
		if checkAll(t, "wrong", g) {
			t.Fatalf("%v is right", g)
		}
	}
}

func TestAllOf(t *testing.T) {
	for _, c := range []struct {
		name         string
		early, words []string
		want         []string
	}{
		{"neither", nil, nil, nil},
		{"neither, of empty lists", []string{}, []string{}, nil},
		{"Early alone", []string{"b", "a"}, nil, []string{"b", "a"}},
		{"Words alone", nil, []string{"d", "c"}, []string{"d", "c"}},
		{"both", []string{"z", "y"}, []string{"b", "a"}, []string{"z", "y", "b", "a"}},
		{"one of each", []string{"b"}, []string{"a"}, []string{"b", "a"}},
		{"more Words", []string{"c"}, []string{"b", "a", "0"}, []string{"c", "b", "a", "0"}},
		{"the same in both", []string{"a", "b"}, []string{"a", "b"}, []string{"a", "b", "a", "b"}},
		{"the same twice", []string{"a", "a"}, []string{"a", "a", "a"}, []string{"a", "a", "a", "a", "a"}},
		{"the most of both", numbered(20), numbered(20), append(numbered(20), numbered(20)...)},
		{"one more Early", numbered(21), numbered(20), nil},
		{"one more Word", numbered(20), numbered(21), nil},
	} {
		for _, b := range guestBases(t) {
			g := changedGuest(b.guest, func(g *impl.Guest) {
				g.Early, g.Words, g.Ahead, g.Sent = c.early, c.words, 0, 0
				*g = withItsRow(*g)
			})
			if got := impl.AllOf(g); !slices.Equal(got, c.want) {
				t.Errorf("%s, of %s: AllOf(%v) = %q", c.name, b.letter, g, got)
			}
		}
	}
	if got := impl.AllOf(impl.Guest{}); len(got) != 0 {
		t.Errorf("AllOf of the zero Guest is %q", got)
	}
}

// TestAllOfWhateverWasSent: what was sent, ahead or behind, is said nevertheless.
func TestAllOfWhateverWasSent(t *testing.T) {
	for _, b := range guestBases(t) {
		if got := impl.AllOf(b.guest); !slices.Equal(got, []string{"a", "b", "c", "d", "e"}) {
			t.Errorf("%s: AllOf(%v) = %q", b.letter, b.guest, got)
		}
	}
}

// TestEarlyWordsStandAheadOfAllOthers says in all ways of up to 6 steps, early or not, what is a text or none, and keeps a list of its own of what was taken.
func TestEarlyWordsStandAheadOfAllOthers(t *testing.T) {
	refused, taken := 0, 0
	var walk func(g impl.Guest, said []string, others bool, steps int)
	walk = func(g impl.Guest, said []string, others bool, steps int) {
		all := impl.AllOf(g)
		if !impl.GuestOk(g) || !slices.Equal(all, said) || !slices.Equal(all[:len(g.Early)], g.Early) || !slices.Equal(all[len(g.Early):], g.Words) {
			t.Fatalf("AllOf(%v) = %q, where %q was said", g, all, said)
		}
		if steps == 0 {
			return
		}
		for _, text := range []string{string(rune('a' + steps)), "A"} {
			next, is := impl.SayEarly(g, text)
			if is && others {
				t.Fatalf("SayEarly(%v, %q) is true behind other words", g, text)
			}
			now := slices.Clone(said)
			if is {
				now = append(now, text)
				taken++
			} else {
				refused++
			}
			walk(next, now, others, steps-1)

			next, is = impl.Say(g, text)
			now = slices.Clone(said)
			if is {
				now = append(now, text)
			}
			walk(next, now, others || is, steps-1)
		}
	}
	for _, g := range append(guestsLike(t, 0, 0), guestsLike(t, 18, 0)...) {
		walk(g, numbered(len(g.Early)), false, 6)
	}
	if refused < 1000 || taken < 1000 {
		t.Fatalf("%d taken, %d refused", taken, refused)
	}
}

// TestSayUntilThereIsNoRoom fills both lists, one text after the other.
func TestSayUntilThereIsNoRoom(t *testing.T) {
	for i, g := range guestsLike(t, 0, 0) {
		var said []string
		early, others := 0, 0
		for range 25 {
			next, is := checkSayEarly(t, "until there is no room", g, "e"+string(rune('a'+early)))
			if is {
				said = append(said, "e"+string(rune('a'+early)))
				early++
			}
			g = next
		}
		for range 25 {
			next, is := checkSay(t, "until there is no room", g, "w"+string(rune('a'+others)))
			if is {
				said = append(said, "w"+string(rune('a'+others)))
				others++
			}
			g = next
		}
		want := [2]int{20, 20}
		switch g.State {
		case impl.GuDone:
			want = [2]int{0, 20}
		case impl.GuShut:
			want = [2]int{0, 0}
		}
		if [2]int{early, others} != want || !slices.Equal(impl.AllOf(g), said) {
			t.Fatalf("%s: %d early, %d others; %q", allBases[i:i+1], early, others, impl.AllOf(g))
		}
	}
}

// guestAnswers is what all functions that answer lists make of a Guest: each list of each answer.
func guestAnswers(g impl.Guest) [][]string {
	lists := [][]string{impl.AllOf(g)}
	for _, text := range []string{"x", "A", ""} {
		early, _ := impl.SayEarly(g, text)
		others, _ := impl.Say(g, text)
		lists = append(lists, early.Early, early.Words, others.Early, others.Words)
	}
	return lists
}

// oneRoom are guests whose lists lie in one row of memory, Words in the spare room right behind Early, and more spare room behind those.
func oneRoom(t *testing.T, early, words int) ([]impl.Guest, []string) {
	t.Helper()
	room := numbered(early + words + 5)
	guests := guestsLike(t, early, words)
	for i := range guests {
		guests[i].Early, guests[i].Words = room[:early], room[early:early+words]
	}
	return guests, room
}

var saidCounts = [][2]int{{0, 0}, {1, 0}, {0, 1}, {3, 0}, {3, 2}, {0, 3}, {19, 0}, {20, 0}, {20, 20}, {21, 0}, {3, 21}}

func TestGuestArgumentsStay(t *testing.T) {
	for _, said := range saidCounts {
		guests, room := oneRoom(t, said[0], said[1])
		given := slices.Clone(room)
		for _, g := range guests {
			kept := cloneGuest(g)
			for _, list := range guestAnswers(g) {
				overwrite(list, "overwritten")
			}
			impl.GuestOk(g)
			if !slices.Equal(room, given) || !sameGuest(g, kept) {
				t.Fatalf("of %v now %v, in all %q", kept, g, room)
			}
		}
	}
}

// TestGuestAnswersAreNew: a list stays as it was answered, whatever is done to all other ones and to the argument.
func TestGuestAnswersAreNew(t *testing.T) {
	for _, said := range saidCounts {
		guests, _ := oneRoom(t, said[0], said[1])
		for i := range guests {
			for kept, want := range guestAnswers(guests[i]) {
				again, room := oneRoom(t, said[0], said[1])
				g := again[i]
				lists := guestAnswers(g)
				for other, list := range lists {
					if other != kept {
						overwrite(list, "overwritten")
					}
				}
				overwrite(room, "overwritten")
				if !slices.Equal(lists[kept], want) {
					t.Fatalf("of %d and %d, list %d: now %q, not %q", said[0], said[1], kept, lists[kept], want)
				}
			}
		}
	}
}

// TestGuestsOfOneGuest: of two that were made of one Guest none knows what the other one said.
func TestGuestsOfOneGuest(t *testing.T) {
	for _, early := range []int{0, 1, 2, 3, 5, 8, 9, 17} {
		g := mustGuest(t, 9)
		for _, text := range numbered(early) {
			g, _ = impl.SayEarly(g, text)
		}
		one, _ := impl.SayEarly(g, "one")
		other, _ := impl.SayEarly(g, "other")
		word, _ := impl.Say(g, "word")
		more, _ := impl.Say(word, "more")
		last, _ := impl.Say(word, "last")
		for _, c := range []struct {
			guest impl.Guest
			want  []string
		}{
			{g, nil}, {one, []string{"one"}}, {other, []string{"other"}},
			{word, []string{"word"}}, {more, []string{"word", "more"}}, {last, []string{"word", "last"}},
		} {
			if got := impl.AllOf(c.guest); !slices.Equal(got, append(numbered(early), c.want...)) {
				t.Fatalf("behind %d: AllOf(%v) = %q", early, c.guest, got)
			}
		}
	}
}

// guestNumbers are the numbers that each number of a Guest is once.
var guestNumbers = append(slices.Clone(guestStates), 2, 9, 20, 21, 41, 42, 1000, 1001, 100000, 100001)

// changesTo makes each number of a Guest n, one at a time, and last all of them.
func changesTo(n int64) []func(g *impl.Guest) {
	return []func(g *impl.Guest){
		func(g *impl.Guest) { g.State = n },
		func(g *impl.Guest) { g.Draw = n },
		func(g *impl.Guest) { g.Pick = n },
		func(g *impl.Guest) { g.Ahead = n },
		func(g *impl.Guest) { g.Sent = n },
		func(g *impl.Guest) { g.Ahead, g.Sent = n, n },
		func(g *impl.Guest) { g.Token.Secret = n },
		func(g *impl.Guest) { g.Token.Born = n },
		func(g *impl.Guest) { g.Token.Life = n },
		func(g *impl.Guest) { g.Token.Most = n },
		func(g *impl.Guest) { g.Token.Seal.No = n },
		func(g *impl.Guest) { g.Token.Seal.Key.Secret = n },
		func(g *impl.Guest) { g.Row.No = n },
		func(g *impl.Guest) { g.Row.Key.Use = n },
		func(g *impl.Guest) { g.Row.Key.Secret = n },
		func(g *impl.Guest) { g.Row.Key.Hello = n },
		func(g *impl.Guest) { g.Row.Key.Answer = n },
		func(g *impl.Guest) {
			g.State, g.Draw, g.Pick, g.Ahead, g.Sent = n, n, n, n, n
			g.Token = impl.Token{Secret: n, Born: n, Life: n, Most: n}
			g.Row = impl.Row{Key: impl.Key{Use: n, Secret: n, Hello: n, Answer: n}, No: n}
		},
	}
}

// TestGuestsAtEachNumber: each number of a Guest is each of these once, right or wrong, and nothing panics.
func TestGuestsAtEachNumber(t *testing.T) {
	for _, b := range guestBases(t) {
		for _, n := range guestNumbers {
			for _, change := range changesTo(n) {
				checkAll(t, "each number", changedGuest(b.guest, change))
				checkAll(t, "each number, with its row", changedGuest(b.guest, fit(change)))
			}
		}
	}
}

// TestGuestAnswersDoNotHangOnCallsAhead: what was said to another Guest ahead of a call is of no matter.
func TestGuestAnswersDoNotHangOnCallsAhead(t *testing.T) {
	for range 3 {
		for _, said := range saidCounts {
			for _, g := range guestsLike(t, said[0], said[1]) {
				checkAll(t, "behind another one", g)
			}
		}
		checkAll(t, "the zero Guest", impl.Guest{})
		if g := mustGuest(t, 9); !sameGuest(g, impl.Guest{Draw: 9}) {
			t.Fatalf("NewGuest(9) = %v", g)
		}
	}
}
