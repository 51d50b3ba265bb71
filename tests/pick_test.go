package tests

import (
	"math"
	"slices"
	"testing"

	"loop.example/g00558/impl"
)

var rightWishes = []int64{impl.WiEarly, impl.WiToken, impl.WiFull, impl.WiAgain}

var wrongWishes = []int64{math.MinInt64, -4, -1, 4, 5, 1 << 32, 1<<32 + 1, math.MaxInt64}

var eachPick = []int64{math.MinInt64, -3, -1, 0, 1, 2, 3, 4, 5, 1<<32 + 2, 1<<32 + 3, math.MaxInt64}

// byWish is what is picked by WiEarly, WiToken, WiFull and WiAgain.
type byWish [4]int64

// The rows that there are, but for second greetings: what has no token is of no use but to be asked again.
var (
	pickedNothing = byWish{}
	pickedFull    = byWish{impl.PkFull, impl.PkFull, impl.PkFull, impl.PkAgain}
	pickedToken   = byWish{impl.PkToken, impl.PkToken, impl.PkFull, impl.PkAgain}
	pickedEarly   = byWish{impl.PkEarly, impl.PkToken, impl.PkFull, impl.PkAgain}
	// Of second greetings.
	againFull  = byWish{impl.PkFull, impl.PkFull, impl.PkFull, impl.PkFull}
	againToken = byWish{impl.PkToken, impl.PkToken, impl.PkFull, impl.PkFull}
)

func wantTokenIn(inn int64, h impl.Hello, now int64) (impl.Token, bool) {
	k, is := wantUnsealed(inn, h.Seal)
	if is && isFresh(k, now) && wantBinds(h, k.Secret) {
		return k, true
	}
	return noToken, false
}

// wantPicked says what chapter 10 says of Picked.
func wantPicked(inn int64, m impl.Memory, h impl.Hello, now, wish int64) int64 {
	if !innIsRight(inn) || !memoryIsRight(m) || !helloIsRight(h) || !timeIsRight(now) || wish < 0 || wish > 3 {
		return 0
	}
	k, has := wantTokenIn(inn, h, now)
	hears := has && h.Early && wantMayHear(m, h.Draw, wantSaidAt(h, k), now) == 0
	switch {
	case wish == 3 && !h.Again:
		return 4
	case wish > 1 || !has:
		return 1
	case wish == 0 && hears:
		return 3
	}
	return 2
}

func wantSecretOf(inn int64, h impl.Hello, now, pick int64) int64 {
	k, has := wantTokenIn(inn, h, now)
	if has && (pick == 2 || pick == 3) {
		return k.Secret
	}
	return 0
}

func checkTokenIn(t *testing.T, name string, inn int64, h impl.Hello, now int64) bool {
	t.Helper()
	want, has := wantTokenIn(inn, h, now)
	if got, is := impl.TokenIn(inn, h, now); got != want || is != has {
		t.Fatalf("%s: TokenIn(%d, %v, %d) = %v, %v", name, inn, h, now, got, is)
	}
	return has
}

func checkPicked(t *testing.T, name string, inn int64, m impl.Memory, h impl.Hello, now, wish int64) int64 {
	t.Helper()
	got, want := impl.Picked(inn, m, h, now, wish), wantPicked(inn, m, h, now, wish)
	if got != want {
		t.Fatalf("%s: Picked(%d, %v, %v, %d, %d) = %d, not %d", name, inn, m, h, now, wish, got, want)
	}
	return got
}

func checkSecretOf(t *testing.T, name string, inn int64, h impl.Hello, now, pick int64) int64 {
	t.Helper()
	got, want := impl.SecretOf(inn, h, now, pick), wantSecretOf(inn, h, now, pick)
	if got != want {
		t.Fatalf("%s: SecretOf(%d, %v, %d, %d) = %d, not %d", name, inn, h, now, pick, got, want)
	}
	return got
}

// changedHello is h with something changed about it.
func changedHello(h impl.Hello, change func(h *impl.Hello)) impl.Hello {
	change(&h)
	return h
}

// boundHello is a right first greeting with that age, whenever that is; its Bind has the same age and flag in it.
func boundHello(k impl.Token, draw, age int64, early bool) impl.Hello {
	return impl.Hello{Draw: draw, Seal: k.Seal, Age: age, Bind: bindOf(k.Secret, draw, false, age, early), Early: early}
}

// pickHellos are greetings with and without a token, right and wrong, each but a few changed by one thing alone.
func pickHellos(t *testing.T) []impl.Hello {
	t.Helper()
	k := mustToken(t, 1, 5, 70, 100, 20)
	other := mustToken(t, 1, 6, 70, 100, 20)
	abroad := mustToken(t, 2, 5, 70, 100, 20)
	first := mustGreetWith(t, 9, false, k, true, 90)
	plain := mustGreetWith(t, 9, false, k, false, 90)
	again := mustGreetWith(t, 9, true, k, false, 90)
	list := []impl.Hello{
		noHello, first, plain, again, mustGreet(t, 9, false), mustGreet(t, 9, true),
		mustGreetWith(t, 9, false, k, true, 70), mustGreetWith(t, 9, false, k, true, 170),
		mustGreetWith(t, 1, false, k, true, 90), mustGreetWith(t, 100000, false, k, true, 90),
		mustGreetWith(t, 9, false, other, true, 90), mustGreetWith(t, 9, true, other, false, 90),
		mustGreetWith(t, 9, false, abroad, true, 90), mustGreetWith(t, 9, true, abroad, false, 90),
		mustGreetWith(t, 9, false, mustToken(t, 0, 5, 70, 100, 20), true, 90),
		mustGreetWith(t, 9, false, mustToken(t, 100000, 5, 70, 100, 20), true, 90),
		mustGreetWith(t, 9, false, mustToken(t, 1, 5, 0, 1, 0), true, 0),
		mustGreetWith(t, 9, false, mustToken(t, 1, 100000, 99000, 1000, 100), true, 99990),
		mustGreetWith(t, 9, false, mustToken(t, 1, 5, 100000, 1000, 20), true, 100000),
		boundHello(mustToken(t, 1, 5, 100000, 1000, 20), 9, 1, true),
		boundHello(k, 9, 0, true), boundHello(k, 9, 99930, true), boundHello(k, 9, 99931, true),
		boundHello(k, 9, 100000, false), boundHello(k, 9, 100001, true), boundHello(k, 9, -1, true),
	}
	for _, h := range []impl.Hello{first, plain, again} {
		for _, change := range []func(h *impl.Hello){
			func(h *impl.Hello) { h.Draw = 10 },
			func(h *impl.Hello) { h.Draw = 0 },
			func(h *impl.Hello) { h.Draw = 100001 },
			func(h *impl.Hello) { h.Again = !h.Again },
			func(h *impl.Hello) { h.Early = !h.Early },
			func(h *impl.Hello) { h.Age = 21 },
			func(h *impl.Hello) { h.Age = 0 },
			func(h *impl.Hello) { h.Age = -1 },
			func(h *impl.Hello) { h.Seal = noBox },
			func(h *impl.Hello) { h.Seal = other.Seal },
			func(h *impl.Hello) { h.Seal = abroad.Seal },
			func(h *impl.Hello) { h.Seal = h.Bind },
			func(h *impl.Hello) { h.Seal = impl.Spoil(h.Seal) },
			func(h *impl.Hello) { h.Seal.No = 1 },
			func(h *impl.Hello) { h.Seal.No = -1 },
			func(h *impl.Hello) { h.Seal.Text = "5-70-100-200" },
			func(h *impl.Hello) { h.Seal.Text = "05-70-100-20" },
			func(h *impl.Hello) { h.Bind = noBox },
			func(h *impl.Hello) { h.Bind = h.Seal },
			func(h *impl.Hello) { h.Bind = impl.Spoil(h.Bind) },
			func(h *impl.Hello) { h.Bind.No = 2 },
			func(h *impl.Hello) { h.Bind.No = 1001 },
			func(h *impl.Hello) { h.Bind.Key.Secret = 6 },
			func(h *impl.Hello) { h.Bind.Key.Secret = 0 },
			func(h *impl.Hello) { h.Bind.Key.Secret = -5 },
			func(h *impl.Hello) { h.Bind.Text = "20-2" },
			func(h *impl.Hello) { h.Bind.Text = "" },
		} {
			list = append(list, changedHello(h, change))
		}
	}
	return list
}

// pickMemories are memories with room and without it, young and old, right and wrong.
func pickMemories() []impl.Memory {
	return []impl.Memory{
		{}, {Seen: []int64{}}, {Seen: []int64{9}}, {Seen: []int64{7, 5, 9}}, {Seen: []int64{7, 5, 10}},
		{Seen: drawsFrom(25, 5)}, {Seen: drawsFrom(26, 6)}, {Seen: drawsFrom(9, 6)},
		{Since: 28}, {Since: 29}, {Since: 90}, {Since: 99938}, {Since: 99939}, {Since: 100000},
		{Seen: drawsFrom(27, 7)}, {Seen: []int64{7, 7}}, {Seen: []int64{0}}, {Seen: []int64{100001}},
		{Since: -1}, {Since: 100001}, {Seen: []int64{9}, Since: math.MinInt64},
	}
}

var pickInns = []int64{math.MinInt64, -1, 0, 1, 2, 100000, 100001, 1<<32 + 1, math.MaxInt64}

var pickNows = []int64{
	math.MinInt64, -1, 0, 1, 61, 62, 69, 70, 71, 89, 90, 91, 120, 121, 170, 171,
	99990, 99999, 100000, 100001, 1<<32 + 90, math.MaxInt64,
}

func TestPickConstants(t *testing.T) {
	wishes := []int64{impl.WiEarly, impl.WiToken, impl.WiFull, impl.WiAgain}
	if want := []int64{0, 1, 2, 3}; !slices.Equal(wishes, want) {
		t.Errorf("wishes %d", wishes)
	}
	picks := []int64{impl.PkFull, impl.PkToken, impl.PkEarly, impl.PkAgain}
	if want := []int64{1, 2, 3, 4}; !slices.Equal(picks, want) {
		t.Errorf("picks %d", picks)
	}
}

func TestTokenIn(t *testing.T) {
	k := mustToken(t, 1, 5, 70, 100, 20)
	other := mustToken(t, 1, 6, 70, 100, 20)
	abroad := mustToken(t, 2, 5, 70, 100, 20)
	none := mustToken(t, 0, 5, 70, 100, 20)
	first := mustGreetWith(t, 9, false, k, true, 90)
	plain := mustGreetWith(t, 9, false, k, false, 90)
	again := mustGreetWith(t, 9, true, k, false, 90)
	late := mustToken(t, 1, 5, 100000, 1000, 20)
	for _, c := range []struct {
		name  string
		inn   int64
		hello impl.Hello
		now   int64
		// The zero Token is none.
		want impl.Token
	}{
		{"early", 1, first, 90, k},
		{"not early", 1, plain, 90, k},
		{"again", 1, again, 90, k},
		{"without a token", 1, mustGreet(t, 9, false), 90, noToken},
		{"without a token, again", 1, mustGreet(t, 9, true), 90, noToken},
		{"the zero Hello", 1, noHello, 90, noToken},
		{"the zero Hello at 0", 0, noHello, 0, noToken},

		{"now at Born", 1, first, 70, k},
		{"now at one less than Born", 1, first, 69, noToken},
		{"now at 0", 1, first, 0, noToken},
		{"now below 0", 1, first, -1, noToken},
		{"fresh for the last time", 1, first, 170, k},
		{"one more", 1, first, 171, noToken},
		{"again, fresh for the last time", 1, again, 170, k},
		{"again, one more", 1, again, 171, noToken},
		{"now ahead of when it was said", 1, first, 75, k},
		{"the least int64", 1, first, math.MinInt64, noToken},
		{"the largest int64", 1, first, math.MaxInt64, noToken},
		{"the last time", 1, boundHello(late, 9, 0, true), 100000, late},
		{"fresh yet, at what is no time", 1, boundHello(late, 9, 0, true), 100001, late},
		{"fresh for the last time, at what is no time", 1, boundHello(late, 9, 0, true), 101000, late},
		{"one more, at what is no time", 1, boundHello(late, 9, 0, true), 101001, noToken},
		{"older than its life", 1, boundHello(k, 9, 5000, true), 90, k},
		{"said at no time", 1, boundHello(k, 9, 99931, true), 90, k},

		{"another inn", 2, first, 90, noToken},
		{"inn 0", 0, first, 90, noToken},
		{"its secret is no inn", 5, first, 90, noToken},
		{"an inn below 0", -1, first, 90, noToken},
		{"an inn past the largest", 100001, first, 90, noToken},
		{"a seal of another inn", 1, mustGreetWith(t, 9, false, abroad, true, 90), 90, noToken},
		{"a seal of another inn, by that one", 2, mustGreetWith(t, 9, false, abroad, true, 90), 90, abroad},
		{"a seal of inn 0, by that one", 0, mustGreetWith(t, 9, false, none, true, 90), 90, none},
		{"a seal of inn 0, by another one", 1, mustGreetWith(t, 9, false, none, true, 90), 90, noToken},
		{"another seal of that inn", 1, changedHello(first, func(h *impl.Hello) { h.Seal = other.Seal }), 90, noToken},
		{"a spoilt seal", 1, changedHello(first, func(h *impl.Hello) { h.Seal = impl.Spoil(h.Seal) }), 90, noToken},
		{"no seal", 1, changedHello(first, func(h *impl.Hello) { h.Seal = noBox }), 90, noToken},
		{"a seal of number 1", 1, changedHello(first, func(h *impl.Hello) { h.Seal.No = 1 }), 90, noToken},
		{"nothing right in the seal", 1, changedHello(first, func(h *impl.Hello) { h.Seal.Text = "5-70-100-101" }), 90, noToken},
		{"the bind as seal", 1, changedHello(first, func(h *impl.Hello) { h.Seal = h.Bind }), 90, noToken},

		{"a bind by another secret", 1, changedHello(first, func(h *impl.Hello) { h.Bind = bindOf(6, 9, false, 20, true) }), 90, noToken},
		{"a bind by no secret", 1, changedHello(first, func(h *impl.Hello) { h.Bind = bindOf(0, 9, false, 20, true) }), 90, noToken},
		{"a bind by the inn", 1, changedHello(first, func(h *impl.Hello) { h.Bind = bindOf(1, 9, false, 20, true) }), 90, noToken},
		{"a spoilt bind", 1, changedHello(first, func(h *impl.Hello) { h.Bind = impl.Spoil(h.Bind) }), 90, noToken},
		{"no bind", 1, changedHello(first, func(h *impl.Hello) { h.Bind = noBox }), 90, noToken},
		{"the seal as bind", 1, changedHello(first, func(h *impl.Hello) { h.Bind = h.Seal }), 90, noToken},
		{"another draw", 1, changedHello(first, func(h *impl.Hello) { h.Draw = 10 }), 90, noToken},
		{"another age", 1, changedHello(first, func(h *impl.Hello) { h.Age = 21 }), 90, noToken},
		{"made early", 1, changedHello(plain, func(h *impl.Hello) { h.Early = true }), 90, noToken},
		{"early no more", 1, changedHello(first, func(h *impl.Hello) { h.Early = false }), 90, noToken},
		{"made the second one", 1, changedHello(plain, func(h *impl.Hello) { h.Again = true }), 90, noToken},
		{"made the first one", 1, changedHello(again, func(h *impl.Hello) { h.Again = false }), 90, noToken},

		{"no draw, in the bind too", 1, boundHello(k, 0, 20, true), 90, noToken},
		{"an age below 0, in the bind too", 1, boundHello(k, 9, -1, true), 90, noToken},
		{"an age past MaxTime, in the bind too", 1, boundHello(k, 9, 100001, true), 90, noToken},
		{"early and again, in the bind too", 1, changedHello(again, func(h *impl.Hello) {
			h.Early, h.Bind = true, bindOf(5, 9, true, 20, true)
		}), 90, noToken},
	} {
		got, is := impl.TokenIn(c.inn, c.hello, c.now)
		if got != c.want || is != (c.want != noToken) {
			t.Errorf("%s: TokenIn(%d, %v, %d) = %v, %v", c.name, c.inn, c.hello, c.now, got, is)
		}
		if checkTokenIn(t, c.name, c.inn, c.hello, c.now) != (c.want != noToken) {
			t.Errorf("%s: the model", c.name)
		}
	}
}

// pickCase is one that greets, and what is picked by each wish; by a wrong one nothing is.
type pickCase struct {
	name   string
	inn    int64
	memory impl.Memory
	hello  impl.Hello
	now    int64
	want   byWish
}

func (c pickCase) check(t *testing.T) {
	t.Helper()
	for _, wish := range rightWishes {
		if got := impl.Picked(c.inn, c.memory, c.hello, c.now, wish); got != c.want[wish] {
			t.Errorf("%s: Picked(%d, %v, %v, %d, %d) = %d, not %d", c.name, c.inn, c.memory, c.hello, c.now, wish, got, c.want[wish])
		}
		checkPicked(t, c.name, c.inn, c.memory, c.hello, c.now, wish)
	}
	for _, wish := range wrongWishes {
		if got := impl.Picked(c.inn, c.memory, c.hello, c.now, wish); got != 0 {
			t.Errorf("%s: Picked(%d, %v, %v, %d, %d) = %d", c.name, c.inn, c.memory, c.hello, c.now, wish, got)
		}
	}
}

func TestPicked(t *testing.T) {
	k := mustToken(t, 1, 5, 70, 100, 20)
	first := mustGreetWith(t, 9, false, k, true, 90)
	plain := mustGreetWith(t, 9, false, k, false, 90)
	again := mustGreetWith(t, 9, true, k, false, 90)
	abroad := mustGreetWith(t, 9, false, mustToken(t, 2, 5, 70, 100, 20), true, 90)
	bare, bareAgain := mustGreet(t, 9, false), mustGreet(t, 9, true)
	old := impl.Memory{}
	for _, c := range []pickCase{
		{"early", 1, old, first, 90, pickedEarly},
		{"not early", 1, old, plain, 90, pickedToken},
		{"again", 1, old, again, 90, againToken},
		{"without a token", 1, old, bare, 90, pickedFull},
		{"without a token, again", 1, old, bareAgain, 90, againFull},
		{"the least draw", 1, old, mustGreetWith(t, 1, false, k, true, 90), 90, pickedEarly},
		{"the largest draw", 1, old, mustGreetWith(t, 100000, false, k, true, 90), 90, pickedEarly},
		{"a token that lets nothing be sent", 1, old, mustGreetWith(t, 9, false, mustToken(t, 1, 5, 70, 100, 0), true, 90), 90, pickedEarly},
		{"a token of the most", 1, old, mustGreetWith(t, 9, false, mustToken(t, 1, 5, 70, 100, 100), true, 90), 90, pickedEarly},
		{"its draw is the token's secret", 1, old, mustGreetWith(t, 5, false, k, true, 90), 90, pickedEarly},

		{"now at Born", 1, old, mustGreetWith(t, 9, false, k, true, 70), 70, pickedEarly},
		{"now at one less than Born", 1, old, mustGreetWith(t, 9, false, k, true, 70), 69, pickedFull},
		{"again, now at Born", 1, old, mustGreetWith(t, 9, true, k, false, 70), 70, againToken},
		{"again, now at one less than Born", 1, old, mustGreetWith(t, 9, true, k, false, 70), 69, againFull},
		{"fresh for the last time", 1, old, mustGreetWith(t, 9, false, k, true, 150), 170, pickedEarly},
		{"one more", 1, old, mustGreetWith(t, 9, false, k, true, 150), 171, pickedFull},
		{"not early, fresh for the last time", 1, old, plain, 170, pickedToken},
		{"not early, one more", 1, old, plain, 171, pickedFull},
		{"again, fresh for the last time", 1, old, again, 170, againToken},
		{"again, one more", 1, old, again, 171, againFull},

		{"a seal of another inn", 1, old, abroad, 90, pickedFull},
		{"a seal of another inn, by that one", 2, old, abroad, 90, pickedEarly},
		{"another inn", 2, old, first, 90, pickedFull},
		{"another inn, again", 2, old, again, 90, againFull},
		{"inn 0", 0, old, mustGreetWith(t, 9, false, mustToken(t, 0, 5, 70, 100, 20), true, 90), 90, pickedEarly},
		{"the largest inn", 100000, old, mustGreetWith(t, 9, false, mustToken(t, 100000, 5, 70, 100, 20), true, 90), 90, pickedEarly},
		{"a spoilt seal", 1, old, changedHello(first, func(h *impl.Hello) { h.Seal = impl.Spoil(h.Seal) }), 90, pickedFull},
		{"a spoilt seal, again", 1, old, changedHello(again, func(h *impl.Hello) { h.Seal = impl.Spoil(h.Seal) }), 90, againFull},
		{"a bind by another secret", 1, old, changedHello(first, func(h *impl.Hello) { h.Bind = bindOf(6, 9, false, 20, true) }), 90, pickedFull},
		{"a bind by no secret", 1, old, changedHello(first, func(h *impl.Hello) { h.Bind = bindOf(0, 9, false, 20, true) }), 90, pickedFull},
		{"a spoilt bind", 1, old, changedHello(first, func(h *impl.Hello) { h.Bind = impl.Spoil(h.Bind) }), 90, pickedFull},
		{"a spoilt bind, again", 1, old, changedHello(again, func(h *impl.Hello) { h.Bind = impl.Spoil(h.Bind) }), 90, againFull},
		{"made early", 1, old, changedHello(plain, func(h *impl.Hello) { h.Early = true }), 90, pickedFull},
		{"another draw", 1, old, changedHello(first, func(h *impl.Hello) { h.Draw = 10 }), 90, pickedFull},
		{"another age", 1, old, changedHello(first, func(h *impl.Hello) { h.Age = 21 }), 90, pickedFull},
		{"made the first one", 1, old, changedHello(again, func(h *impl.Hello) { h.Again = false }), 90, pickedFull},
		{"made the second one", 1, old, changedHello(plain, func(h *impl.Hello) { h.Again = true }), 90, againFull},
	} {
		c.check(t)
	}
}

// TestPickedOfEachCode: of each code of MayHear that says no, what is met by one less is heard.
func TestPickedOfEachCode(t *testing.T) {
	k := mustToken(t, 1, 5, 70, 100, 20)
	first := mustGreetWith(t, 9, false, k, true, 90)
	last := mustToken(t, 1, 5, 99000, 1000, 20)
	lastHello := mustGreetWith(t, 9, false, last, true, 100000)
	for _, c := range []struct {
		pickCase
		code int64
	}{
		{pickCase{"now one more than Since and Window", 1, impl.Memory{Since: 28}, first, 90, pickedEarly}, impl.MhYes},
		{pickCase{"now at Since and Window", 1, impl.Memory{Since: 29}, first, 90, pickedToken}, impl.MhYoung},
		{pickCase{"now at Since", 1, impl.Memory{Since: 90}, first, 90, pickedToken}, impl.MhYoung},
		{pickCase{"now ahead of Since", 1, impl.Memory{Since: 91}, first, 90, pickedToken}, impl.MhYoung},
		{pickCase{"Since MaxTime", 1, impl.Memory{Since: 100000}, first, 90, pickedToken}, impl.MhYoung},
		{pickCase{"Since so late that now is just more", 1, impl.Memory{Since: 99938}, lastHello, 100000, pickedEarly}, impl.MhYes},
		{pickCase{"Since so late that no now is more", 1, impl.Memory{Since: 99939}, lastHello, 100000, pickedToken}, impl.MhYoung},

		{pickCase{"said Slack ahead of now", 1, impl.Memory{}, first, 120, pickedEarly}, impl.MhYes},
		{pickCase{"said one more ahead of now", 1, impl.Memory{}, first, 121, pickedToken}, impl.MhStale},
		{pickCase{"said when its life ended", 1, impl.Memory{}, mustGreetWith(t, 9, false, k, true, 170), 170, pickedEarly}, impl.MhYes},
		{pickCase{"said Slack behind now", 1, impl.Memory{}, mustGreetWith(t, 9, false, k, true, 130), 100, pickedEarly}, impl.MhYes},
		{pickCase{"said one more behind now", 1, impl.Memory{}, mustGreetWith(t, 9, false, k, true, 131), 100, pickedToken}, impl.MhStale},
		{pickCase{"said at MaxTime", 1, impl.Memory{}, boundHello(k, 9, 99930, true), 90, pickedToken}, impl.MhStale},

		{pickCase{"seen alone", 1, impl.Memory{Seen: []int64{9}}, first, 90, pickedToken}, impl.MhSeen},
		{pickCase{"seen first", 1, impl.Memory{Seen: []int64{9, 8, 7}}, first, 90, pickedToken}, impl.MhSeen},
		{pickCase{"seen last", 1, impl.Memory{Seen: []int64{7, 8, 9}}, first, 90, pickedToken}, impl.MhSeen},
		{pickCase{"others seen", 1, impl.Memory{Seen: []int64{8, 10, 5}}, first, 90, pickedEarly}, impl.MhYes},
		{pickCase{"an empty list", 1, impl.Memory{Seen: []int64{}}, first, 90, pickedEarly}, impl.MhYes},

		{pickCase{"one room left", 1, impl.Memory{Seen: drawsFrom(25, 5)}, first, 90, pickedEarly}, impl.MhYes},
		{pickCase{"no room", 1, impl.Memory{Seen: drawsFrom(25, 6)}, first, 90, pickedToken}, impl.MhFull},
		{pickCase{"no room, and seen", 1, impl.Memory{Seen: drawsFrom(9, 6)}, first, 90, pickedToken}, impl.MhSeen},

		{pickCase{"said at MaxTime, near by", 1, impl.Memory{}, lastHello, 99970, pickedEarly}, impl.MhYes},
		{pickCase{"said at no time, near by", 1, impl.Memory{}, boundHello(last, 9, 1001, true), 100000, pickedToken}, impl.MhBad},
		{pickCase{"said at no time", 1, impl.Memory{}, boundHello(k, 9, 99931, true), 90, pickedToken}, impl.MhBad},

		{pickCase{"young, stale, seen and no room", 1, impl.Memory{Seen: drawsFrom(9, 6), Since: 60}, first, 121, pickedToken}, impl.MhYoung},
	} {
		c.check(t)
		said := c.hello.Age + 70
		if c.hello.Seal == last.Seal {
			said = c.hello.Age + 99000
		}
		if said > 100000 {
			said = -1
		}
		if got := impl.MayHear(c.memory, c.hello.Draw, said, c.now); got != c.code {
			t.Errorf("%s: MayHear is %d, not %d", c.name, got, c.code)
		}
	}
}

// TestPickedOfWhatIsNotRight has one thing alone wrong in each case, and then all of them; and each one's neighbour that is right.
func TestPickedOfWhatIsNotRight(t *testing.T) {
	k := mustToken(t, 1, 5, 70, 100, 20)
	late := mustToken(t, 1, 5, 100000, 1000, 20)
	first := mustGreetWith(t, 9, false, k, true, 90)
	again := mustGreetWith(t, 9, true, k, false, 90)
	old, bare := impl.Memory{}, mustGreet(t, 9, false)
	for _, c := range []pickCase{
		{"too many seen", 1, impl.Memory{Seen: drawsFrom(25, 7)}, first, 90, pickedNothing},
		{"two alike seen", 1, impl.Memory{Seen: []int64{7, 7}}, first, 90, pickedNothing},
		{"what was seen is no draw", 1, impl.Memory{Seen: []int64{0}}, first, 90, pickedNothing},
		{"what was seen is past the largest draw", 1, impl.Memory{Seen: []int64{100001}}, first, 90, pickedNothing},
		{"since below 0", 1, impl.Memory{Since: -1}, first, 90, pickedNothing},
		{"since past MaxTime", 1, impl.Memory{Since: 100001}, first, 90, pickedNothing},
		{"a wrong memory, not early", 1, impl.Memory{Since: -1}, mustGreetWith(t, 9, false, k, false, 90), 90, pickedNothing},
		{"a wrong memory, again", 1, impl.Memory{Since: -1}, again, 90, pickedNothing},
		{"a wrong memory, without a token", 1, impl.Memory{Since: -1}, bare, 90, pickedNothing},

		{"the zero Hello", 1, old, noHello, 90, pickedNothing},
		{"no draw", 1, old, changedHello(first, func(h *impl.Hello) { h.Draw = 0 }), 90, pickedNothing},
		{"one past the largest draw", 1, old, changedHello(first, func(h *impl.Hello) { h.Draw = 100001 }), 90, pickedNothing},
		{"no draw, without a token", 1, old, impl.Hello{Draw: 0, Again: true}, 90, pickedNothing},
		{"early and again", 1, old, changedHello(again, func(h *impl.Hello) { h.Early = true }), 90, pickedNothing},
		{"made the second one, early yet", 1, old, changedHello(first, func(h *impl.Hello) { h.Again = true }), 90, pickedNothing},
		{"early without a token", 1, old, impl.Hello{Draw: 9, Early: true}, 90, pickedNothing},
		{"no seal", 1, old, changedHello(first, func(h *impl.Hello) { h.Seal = noBox }), 90, pickedNothing},
		{"no bind", 1, old, changedHello(first, func(h *impl.Hello) { h.Bind = noBox }), 90, pickedNothing},
		{"an age below 0", 1, old, boundHello(k, 9, -1, true), 90, pickedNothing},
		{"an age past MaxTime", 1, old, boundHello(k, 9, 100001, true), 90, pickedNothing},
		{"an age alone", 1, old, impl.Hello{Draw: 9, Age: 20}, 90, pickedNothing},

		{"an inn below 0", -1, old, first, 90, pickedNothing},
		{"inn 0, without a token", 0, old, bare, 90, pickedFull},
		{"the largest inn, without a token", 100000, old, bare, 90, pickedFull},
		{"an inn past the largest", 100001, old, first, 90, pickedNothing},
		{"an inn past the largest, without a token", 100001, old, bare, 90, pickedNothing},
		{"an inn below 0, again", -1, old, again, 90, pickedNothing},
		{"the least inn of all", math.MinInt64, old, bare, 90, pickedNothing},
		{"the largest inn of all", math.MaxInt64, old, bare, 90, pickedNothing},

		{"now below 0", 1, old, first, -1, pickedNothing},
		{"now below 0, without a token", 1, old, bare, -1, pickedNothing},
		{"now at 0, without a token", 1, old, bare, 0, pickedFull},
		{"now at MaxTime, without a token", 1, old, bare, 100000, pickedFull},
		{"now past MaxTime, without a token", 1, old, bare, 100001, pickedNothing},
		{"now at MaxTime", 1, old, boundHello(late, 9, 0, true), 100000, pickedEarly},
		{"now past MaxTime, fresh yet", 1, old, boundHello(late, 9, 0, true), 100001, pickedNothing},
		{"the least now", 1, old, first, math.MinInt64, pickedNothing},
		{"the largest now", 1, old, first, math.MaxInt64, pickedNothing},

		{"nothing right", -1, impl.Memory{Seen: []int64{0, 0}, Since: -1}, noHello, -1, pickedNothing},
	} {
		c.check(t)
	}
}

func TestSecretOf(t *testing.T) {
	k := mustToken(t, 1, 5, 70, 100, 20)
	far := mustToken(t, 1, 100000, 70, 100, 20)
	first := mustGreetWith(t, 9, false, k, true, 90)
	for _, c := range []struct {
		name  string
		inn   int64
		hello impl.Hello
		now   int64
		// The secret by PkToken and PkEarly.
		want int64
	}{
		{"early", 1, first, 90, 5},
		{"not early", 1, mustGreetWith(t, 9, false, k, false, 90), 90, 5},
		{"again", 1, mustGreetWith(t, 9, true, k, false, 90), 90, 5},
		{"the largest secret", 1, mustGreetWith(t, 9, false, far, true, 90), 90, 100000},
		{"the least secret", 1, mustGreetWith(t, 9, false, mustToken(t, 1, 1, 70, 100, 20), true, 90), 90, 1},
		{"now at Born", 1, first, 70, 5},
		{"now at one less than Born", 1, first, 69, 0},
		{"fresh for the last time", 1, first, 170, 5},
		{"one more", 1, first, 171, 0},
		{"stale", 1, first, 121, 5},
		{"another inn", 2, first, 90, 0},
		{"an inn below 0", -1, first, 90, 0},
		{"without a token", 1, mustGreet(t, 9, false), 90, 0},
		{"without a token, again", 1, mustGreet(t, 9, true), 90, 0},
		{"the zero Hello", 1, noHello, 90, 0},
		{"a bind by another secret", 1, changedHello(first, func(h *impl.Hello) { h.Bind = bindOf(6, 9, false, 20, true) }), 90, 0},
		{"a bind by no secret", 1, changedHello(first, func(h *impl.Hello) { h.Bind = bindOf(0, 9, false, 20, true) }), 90, 0},
		{"a spoilt bind", 1, changedHello(first, func(h *impl.Hello) { h.Bind = impl.Spoil(h.Bind) }), 90, 0},
		{"a spoilt seal", 1, changedHello(first, func(h *impl.Hello) { h.Seal = impl.Spoil(h.Seal) }), 90, 0},
		{"now below 0", 1, first, -1, 0},
		{"the largest now", 1, first, math.MaxInt64, 0},
	} {
		for _, pick := range eachPick {
			want := int64(0)
			if pick == impl.PkToken || pick == impl.PkEarly {
				want = c.want
			}
			if got := impl.SecretOf(c.inn, c.hello, c.now, pick); got != want {
				t.Errorf("%s: SecretOf(%d, %v, %d, %d) = %d, not %d", c.name, c.inn, c.hello, c.now, pick, got, want)
			}
			checkSecretOf(t, c.name, c.inn, c.hello, c.now, pick)
		}
	}
}

// TestPickOfEach: each of these inns, greetings, times, memories, wishes and picks together.
func TestPickOfEach(t *testing.T) {
	hellos, memories := pickHellos(t), pickMemories()
	wishes := append(slices.Clone(wrongWishes), rightWishes...)
	tokens, came := 0, [5]int{}
	for _, h := range hellos {
		for _, inn := range pickInns {
			for _, now := range pickNows {
				if checkTokenIn(t, "each", inn, h, now) {
					tokens++
				}
				for _, pick := range eachPick {
					checkSecretOf(t, "each", inn, h, now, pick)
				}
				// Of an inn that has nothing to do with any seal here a few are enough.
				if inn != 1 && inn != 2 && now != 90 {
					continue
				}
				for _, m := range memories {
					for _, wish := range wishes {
						came[checkPicked(t, "each", inn, m, h, now, wish)]++
					}
				}
			}
		}
	}
	if tokens < 100 {
		t.Errorf("only %d tokens", tokens)
	}
	for pick, count := range came {
		if count < 200 {
			t.Errorf("pick %d came %d times", pick, count)
		}
	}
}

// TestTokenInOfEachHello: draws, ages, boxes and flags, right and wrong, all together.
func TestTokenInOfEachHello(t *testing.T) {
	tokens := 0
	eachHello(t, func(h impl.Hello) {
		if checkTokenIn(t, "each", 1, h, 90) {
			tokens++
		}
		checkSecretOf(t, "each", 1, h, 90, impl.PkEarly)
	})
	// Its very seal with its very bind: once early, and once again.
	if tokens != 2 {
		t.Fatalf("%d tokens", tokens)
	}
}

func TestPickedOfEachHello(t *testing.T) {
	came := [5]int{}
	eachHello(t, func(h impl.Hello) {
		for _, wish := range rightWishes {
			came[checkPicked(t, "each", 1, impl.Memory{}, h, 90, wish)]++
		}
	})
	// Of the 2 with a token one is early.
	if came[impl.PkEarly] != 1 || came[impl.PkToken] != 3 {
		t.Fatalf("they came %d times", came)
	}
}

func TestPickedOfEachMemory(t *testing.T) {
	k := mustToken(t, 1, 5, 70, 500, 20)
	came := [5]int{}
	eachMemory(func(m impl.Memory) {
		for _, draw := range []int64{1, 2, 7, 9, 50, 100000} {
			for _, now := range []int64{161, 162, 193} {
				for _, early := range eitherWay {
					h := mustGreetWith(t, draw, false, k, early, 162)
					for _, wish := range rightWishes {
						came[checkPicked(t, "each memory", 1, m, h, now, wish)]++
					}
				}
			}
		}
	})
	for pick, count := range came {
		if count < 100 {
			t.Errorf("pick %d came %d times", pick, count)
		}
	}
}

func TestPickedByEachInn(t *testing.T) {
	for _, own := range []int64{0, 1, 2, 5, 9, 99999, 100000} {
		h := mustGreetWith(t, 9, false, mustToken(t, own, 5, 70, 100, 20), true, 90)
		for _, inn := range tokenInns {
			want := pickedFull
			switch {
			case !innIsRight(inn):
				want = pickedNothing
			case inn == own:
				want = pickedEarly
			}
			pickCase{"each inn", inn, impl.Memory{}, h, 90, want}.check(t)
		}
	}
}

// TestNoEarlyWordsArePickedThatMayNotBeHeard has each time around Since, Window, Slack and a token's life, and asks of each pick what MayHear says.
func TestNoEarlyWordsArePickedThatMayNotBeHeard(t *testing.T) {
	came := [6]int{}
	for _, born := range []int64{0, 60, 99900} {
		k := mustToken(t, 1, 5, born, 90, 20)
		for _, since := range []int64{0, born, born + 20} {
			for _, seen := range [][]int64{nil, {9}, {8, 10}, drawsFrom(25, 5), drawsFrom(25, 6), drawsFrom(9, 6)} {
				m := impl.Memory{Seen: seen, Since: since}
				for age := range int64(120) {
					h := boundHello(k, 9, age, true)
					for now := max(0, born-2); now <= min(born+92, 100000); now++ {
						got := checkPicked(t, "each time", 1, m, h, now, impl.WiEarly)
						code := impl.MayHear(m, 9, impl.SaidAt(h, k), now)
						may := code == impl.MhYes && impl.Fresh(k, now)
						if (got == impl.PkEarly) != may {
							t.Fatalf("Picked(1, %v, %v, %d, 0) = %d, where MayHear is %d", m, h, now, got, code)
						}
						came[code]++
					}
				}
			}
		}
	}
	for code, count := range came {
		if count < 100 {
			t.Errorf("code %d came %d times", code, count)
		}
	}
}

// TestEarlyIsPickedByThatWishAlone, and of who is early alone.
func TestEarlyIsPickedByThatWishAlone(t *testing.T) {
	early := 0
	for _, h := range pickHellos(t) {
		for _, m := range pickMemories() {
			for _, wish := range append(slices.Clone(wrongWishes), rightWishes...) {
				if impl.Picked(1, m, h, 90, wish) != impl.PkEarly {
					continue
				}
				early++
				k, has := impl.TokenIn(1, h, 90)
				if wish != impl.WiEarly || !h.Early || h.Again || !has || impl.MayHear(m, h.Draw, impl.SaidAt(h, k), 90) != impl.MhYes {
					t.Fatalf("Picked(1, %v, %v, 90, %d) is PkEarly", m, h, wish)
				}
			}
		}
	}
	if early < 20 {
		t.Fatalf("only %d early", early)
	}
}

// TestEarlyWordsArePickedOnce: behind what was Noted, or a fall, the same greeting is never again early, however late it comes.
func TestEarlyWordsArePickedOnce(t *testing.T) {
	k := mustToken(t, 1, 5, 70, 300, 20)
	picked, token := 0, 0
	for said := int64(70); said <= 150; said++ {
		h := mustGreetWith(t, 9, false, k, true, said)
		for _, first := range []int64{said - 30, said, said + 30} {
			if impl.Picked(1, impl.Memory{}, h, first, impl.WiEarly) != impl.PkEarly {
				continue
			}
			picked++
			noted := mustNote(t, impl.Memory{}, 9)
			for fall := first; fall <= first+65; fall += 5 {
				for _, m := range []impl.Memory{noted, mustMemory(t, fall)} {
					for now := fall; now <= fall+130; now++ {
						switch impl.Picked(1, m, h, now, impl.WiEarly) {
						case impl.PkEarly:
							t.Fatalf("said at %d, picked at %d, again at %d by %v", said, first, now, m)
						case impl.PkToken:
							token++
						}
					}
				}
			}
		}
	}
	// Else it would hold of a program that picks nothing.
	if picked < 100 || token < 1000 {
		t.Fatalf("%d picked, then %d by token", picked, token)
	}
}

// TestWhoStandsOnTheWayIsNotPicked: none of the boxes that went by makes another greeting, of a token, than those that were said.
func TestWhoStandsOnTheWayIsNotPicked(t *testing.T) {
	said := map[impl.Hello]bool{}
	seals, binds := []impl.Box{noBox}, []impl.Box{noBox}
	for _, inn := range []int64{1, 2} {
		for _, secret := range []int64{5, 6} {
			k := mustToken(t, inn, secret, 70, 100, 20)
			seals = append(seals, k.Seal, impl.Spoil(k.Seal))
			for _, draw := range []int64{9, 10} {
				for _, h := range []impl.Hello{
					mustGreetWith(t, draw, false, k, true, 71),
					mustGreetWith(t, draw, false, k, true, 90),
					mustGreetWith(t, draw, false, k, false, 90),
					mustGreetWith(t, draw, true, k, false, 90),
				} {
					said[h] = true
					binds = append(binds, h.Bind, impl.Spoil(h.Bind))
				}
			}
		}
	}
	tokens := map[impl.Hello]bool{}
	for _, seal := range slices.Concat(seals, binds) {
		for _, bind := range slices.Concat(seals, binds) {
			for _, draw := range []int64{9, 10, 11} {
				for _, age := range []int64{0, 1, 20} {
					for _, again := range eitherWay {
						for _, early := range eitherWay {
							h := impl.Hello{Draw: draw, Again: again, Seal: seal, Age: age, Bind: bind, Early: early}
							for _, inn := range []int64{1, 2} {
								_, has := impl.TokenIn(inn, h, 90)
								pick := impl.Picked(inn, impl.Memory{}, h, 90, impl.WiEarly)
								if has != (pick == impl.PkToken || pick == impl.PkEarly) {
									t.Fatalf("TokenIn(%d, %v, 90) is %v, what is picked %d", inn, h, has, pick)
								}
								if has {
									tokens[h] = true
								}
							}
						}
					}
				}
			}
		}
	}
	for h := range tokens {
		if !said[h] {
			t.Errorf("%v has a token, but was not said", h)
		}
	}
	if len(said) != 32 || len(tokens) != 32 {
		t.Fatalf("%d said, %d have a token", len(said), len(tokens))
	}
}

// spoiltOnTheWay is what one without keys may make of a greeting.
func spoiltOnTheWay(h impl.Hello, chance int64) impl.Hello {
	switch chance % 12 {
	case 0:
		h.Seal = impl.Spoil(h.Seal)
	case 1:
		h.Bind = impl.Spoil(h.Bind)
	case 2:
		h.Draw++
	case 3:
		h.Age++
	case 4:
		h.Early = !h.Early
	case 5:
		h.Again = !h.Again
	}
	return h
}

// TestEachIsPickedOnceOnALongWay: greetings come doubled, late and spoilt, by any wish, and the house falls now and then, or has no room.
func TestEachIsPickedOnceOnALongWay(t *testing.T) {
	m := mustMemory(t, 0)
	var way []impl.Hello
	said, heard, came := map[impl.Hello]bool{}, map[int64]bool{}, [5]int{}
	state := int64(1)
	for now := range int64(60000) {
		// Any fixed row of numbers does, as long as it is not in step with the calls.
		state = (state*1103515245 + 12345) % (1 << 31)
		chance := state / 65536
		if chance%5 == 0 {
			draw := int64(len(way) + 1)
			k := mustToken(t, 1, draw, max(0, now-100), 200, 20)
			// Clocks differ: what is said now may seem to be said a little ahead of now or behind it.
			h := mustGreetWith(t, draw, false, k, chance/5%4 != 0, max(0, now+chance/20%71-35))
			way, said[h] = append(way, h), true
		}
		if chance%300 == 1 {
			m = mustMemory(t, now)
		}
		if len(way) == 0 {
			continue
		}
		h := spoiltOnTheWay(way[max(0, len(way)-1-int(chance/7%60))], chance/3)
		// Three of four wish early words, so that there are enough of them.
		wish := max(0, chance/11%16-12)
		pick := checkPicked(t, "on a long way", 1, m, h, now, wish)
		checkSecretOf(t, "on a long way", 1, h, now, pick)
		came[pick]++
		if pick != impl.PkEarly {
			continue
		}
		if heard[h.Draw] || !said[h] {
			t.Fatalf("%v is picked at %d: heard %v, said %v", h, now, heard[h.Draw], said[h])
		}
		heard[h.Draw] = true
		m = mustNote(t, m, h.Draw)
	}
	for pick, count := range came {
		if count < 100 {
			t.Errorf("pick %d came %d times", pick, count)
		}
	}
}

func TestPickArgumentsStay(t *testing.T) {
	k := mustToken(t, 1, 5, 70, 100, 20)
	hellos := []impl.Hello{
		mustGreetWith(t, 9, false, k, true, 90), mustGreetWith(t, 9, true, k, false, 90), mustGreet(t, 9, false), noHello,
	}
	for _, given := range [][]int64{drawsFrom(25, 9), drawsFrom(9, 9), {7, 7, 6, 5, 4, 3, 2, 1}, {0, 7, 6, 5, 4, 3, 2, 1}} {
		arg := slices.Clone(given)
		for n := range len(arg) + 1 {
			for _, since := range []int64{-1, 0, 60} {
				m := impl.Memory{Seen: arg[:n], Since: since}
				for _, h := range hellos {
					kept := h
					for _, wish := range append(slices.Clone(wrongWishes), rightWishes...) {
						one := impl.Picked(1, m, h, 90, wish)
						impl.TokenIn(1, h, 90)
						impl.SecretOf(1, h, 90, one)
						if h != kept || impl.Picked(1, m, h, 90, wish) != one {
							t.Fatalf("of %v now %v", kept, h)
						}
					}
				}
				if !slices.Equal(arg, given) || len(m.Seen) != n || m.Since != since {
					t.Fatalf("behind %d of them now %v, in all %d", n, m, arg)
				}
			}
		}
	}
}

// TestPickAnswersDoNotHangOnCallsAhead: what was picked, or seen, ahead of a call is of no matter.
func TestPickAnswersDoNotHangOnCallsAhead(t *testing.T) {
	k := mustToken(t, 1, 5, 70, 100, 20)
	h := mustGreetWith(t, 9, false, k, true, 90)
	for range 3 {
		for _, c := range []pickCase{
			{"seen", 1, impl.Memory{Seen: []int64{9}}, h, 90, pickedToken},
			{"not seen", 1, impl.Memory{}, h, 90, pickedEarly},
			{"another inn", 2, impl.Memory{}, h, 90, pickedFull},
			{"nothing right", -1, impl.Memory{}, h, 90, pickedNothing},
		} {
			c.check(t)
		}
		got, is := impl.TokenIn(1, h, 90)
		got.Seal.Text, got.Secret = "hay", 6
		if second, has := impl.TokenIn(1, h, 90); !is || !has || second != k || impl.SecretOf(1, h, 90, impl.PkEarly) != 5 {
			t.Fatalf("%v, %v", second, has)
		}
	}
}
