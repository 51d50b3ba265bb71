package tests

import (
	"fmt"
	"math"
	"slices"
	"strings"
	"testing"

	"loop.example/g00558/impl"
)

var noHello = impl.Hello{}

var helloDraws = []int64{math.MinInt64, -9, -1, 0, 1, 5, 9, 99999, 100000, 100001, 1<<32 + 9, math.MaxInt64}

var helloAges = []int64{math.MinInt64, -20, -1, 0, 1, 20, 99999, 100000, 100001, 1<<32 + 20, math.MaxInt64}

var eitherWay = []bool{false, true}

// helloIsRight says what chapter 9 says of a Hello.
func helloIsRight(h impl.Hello) bool {
	if h.Draw < 1 || h.Draw > 100000 || h.Again && h.Early {
		return false
	}
	if h.Seal == noBox {
		return h.Age == 0 && h.Bind == noBox && !h.Early
	}
	return boxIsRight(h.Seal.Key, h.Seal.No, h.Seal.Text) && timeIsRight(h.Age) && boxIsRight(h.Bind.Key, h.Bind.No, h.Bind.Text)
}

// bindOf is the Bind that chapter 9 tells of, right or wrong.
func bindOf(secret, draw int64, again bool, age int64, early bool) impl.Box {
	no, last := int64(0), 0
	if again {
		no = 1
	}
	if early {
		last = 1
	}
	return impl.Box{Key: impl.Key{Use: impl.KyBind, Secret: secret, Hello: draw}, No: no, Text: fmt.Sprintf("%d-%d", age, last)}
}

func wantGreetingWith(draw int64, again bool, k impl.Token, early bool, now int64) (impl.Hello, bool) {
	if !isFresh(k, now) || !timeIsRight(now) || draw < 1 || draw > 100000 || again && early {
		return noHello, false
	}
	age := now - k.Born
	return impl.Hello{
		Draw: draw, Again: again, Seal: k.Seal, Age: age, Bind: bindOf(k.Secret, draw, again, age, early), Early: early,
	}, true
}

func wantBinds(h impl.Hello, secret int64) bool {
	return helloIsRight(h) && secret >= 0 && secret <= 100000 && h.Bind == bindOf(secret, h.Draw, h.Again, h.Age, h.Early)
}

func wantSaidAt(h impl.Hello, k impl.Token) int64 {
	if !helloIsRight(h) || !tokenIsRight(k) || k.Born+h.Age > 100000 {
		return -1
	}
	return k.Born + h.Age
}

func checkGreetingWith(t *testing.T, name string, draw int64, again bool, k impl.Token, early bool, now int64) {
	t.Helper()
	want, right := wantGreetingWith(draw, again, k, early, now)
	if got, is := impl.GreetingWith(draw, again, k, early, now); got != want || is != right {
		t.Fatalf("%s: GreetingWith(%d, %v, %v, %v, %d) = %v, %v", name, draw, again, k, early, now, got, is)
	}
}

func checkBinds(t *testing.T, name string, h impl.Hello, secret int64) bool {
	t.Helper()
	want := wantBinds(h, secret)
	if got := impl.Binds(h, secret); got != want {
		t.Fatalf("%s: Binds(%v, %d) = %v", name, h, secret, got)
	}
	return want
}

func mustGreet(t *testing.T, draw int64, again bool) impl.Hello {
	t.Helper()
	h, is := impl.Greeting(draw, again)
	if !is {
		t.Fatalf("Greeting(%d, %v) is false", draw, again)
	}
	return h
}

func mustGreetWith(t *testing.T, draw int64, again bool, k impl.Token, early bool, now int64) impl.Hello {
	t.Helper()
	h, is := impl.GreetingWith(draw, again, k, early, now)
	if !is {
		t.Fatalf("GreetingWith(%d, %v, %v, %v, %d) is false", draw, again, k, early, now)
	}
	return h
}

// helloBoxes are right and wrong boxes, among them some that are zero but for one thing.
func helloBoxes(t *testing.T) []impl.Box {
	t.Helper()
	seal := mustToken(t, 1, 5, 70, 100, 20).Seal
	bind := mustLock(t, impl.BindKey(5, 9), 0, "20-1")
	return []impl.Box{
		noBox, {Spoilt: true}, {Text: "20-1"}, {No: 1}, {Key: impl.Key{Secret: 5}},
		seal, impl.Spoil(seal), bind, impl.Spoil(bind), mustLock(t, impl.BindKey(5, 9), 1, "20-0"),
		{Key: seal.Key}, {Key: bind.Key, No: 1000, Text: strings.Repeat("a", 40)},
		{Key: bind.Key, No: 1001, Text: "20-1"}, {Key: bind.Key, No: -1, Text: "20-1"},
		{Key: bind.Key, Text: strings.Repeat("a", 41)},
		{Key: impl.Key{Use: impl.KyBind, Secret: 5}, Text: "20-1"},
		{Key: impl.Key{Use: impl.KyBind, Secret: -1, Hello: 9}, Text: "20-1"},
		{Key: impl.Key{Use: impl.KyToken, Secret: 100001}, Text: "5-70-100-20"},
	}
}

// eachHello goes through all of these draws, ages, boxes and flags together, right and wrong.
func eachHello(t *testing.T, f func(impl.Hello)) {
	t.Helper()
	boxes := helloBoxes(t)
	for _, draw := range helloDraws {
		for _, age := range helloAges {
			for _, seal := range boxes {
				for _, bind := range boxes {
					for _, again := range eitherWay {
						for _, early := range eitherWay {
							f(impl.Hello{Draw: draw, Again: again, Seal: seal, Age: age, Bind: bind, Early: early})
						}
					}
				}
			}
		}
	}
}

func TestHelloOk(t *testing.T) {
	seal := mustToken(t, 1, 5, 70, 100, 20).Seal
	bind := bindOf(5, 9, false, 20, true)
	late := bindOf(5, 9, true, 20, false)
	for _, c := range []struct {
		name  string
		hello impl.Hello
		want  bool
	}{
		{"the zero Hello", noHello, false},
		{"without a token", impl.Hello{Draw: 9}, true},
		{"without a token, again", impl.Hello{Draw: 9, Again: true}, true},
		{"without a token, early", impl.Hello{Draw: 9, Early: true}, false},
		{"without a token, early, again", impl.Hello{Draw: 9, Again: true, Early: true}, false},
		{"with a token", impl.Hello{Draw: 9, Seal: seal, Age: 20, Bind: bind}, true},
		{"with a token, early", impl.Hello{Draw: 9, Seal: seal, Age: 20, Bind: bind, Early: true}, true},
		{"with a token, again", impl.Hello{Draw: 9, Again: true, Seal: seal, Age: 20, Bind: late}, true},
		{"with a token, early, again", impl.Hello{Draw: 9, Again: true, Seal: seal, Age: 20, Bind: late, Early: true}, false},

		{"the least draw", impl.Hello{Draw: 1}, true},
		{"the largest draw", impl.Hello{Draw: 100000}, true},
		{"one ahead of the least draw", impl.Hello{Draw: 0, Again: true}, false},
		{"one past the largest draw", impl.Hello{Draw: 100001}, false},
		{"a draw below 0", impl.Hello{Draw: -9}, false},
		{"the largest draw, with a token", impl.Hello{Draw: 100000, Seal: seal, Age: 20, Bind: bind}, true},
		{"no draw, with a token", impl.Hello{Draw: 0, Seal: seal, Age: 20, Bind: bind}, false},
		{"one past the largest draw, with a token", impl.Hello{Draw: 100001, Seal: seal, Age: 20, Bind: bind}, false},

		{"age 0", impl.Hello{Draw: 9, Seal: seal, Age: 0, Bind: bind}, true},
		{"age MaxTime", impl.Hello{Draw: 9, Seal: seal, Age: 100000, Bind: bind}, true},
		{"age below 0", impl.Hello{Draw: 9, Seal: seal, Age: -1, Bind: bind}, false},
		{"age past MaxTime", impl.Hello{Draw: 9, Seal: seal, Age: 100001, Bind: bind}, false},

		{"an age alone", impl.Hello{Draw: 9, Age: 20}, false},
		{"an age below 0 alone", impl.Hello{Draw: 9, Age: -1}, false},
		{"a seal alone", impl.Hello{Draw: 9, Seal: seal}, false},
		{"a bind alone", impl.Hello{Draw: 9, Bind: bind}, false},
		{"no seal", impl.Hello{Draw: 9, Age: 20, Bind: bind}, false},
		{"no seal, early", impl.Hello{Draw: 9, Age: 20, Bind: bind, Early: true}, false},
		{"no bind", impl.Hello{Draw: 9, Seal: seal, Age: 20}, false},
		{"no bind, again", impl.Hello{Draw: 9, Again: true, Seal: seal, Age: 20}, false},
		{"a zero seal that is spoilt", impl.Hello{Draw: 9, Seal: impl.Box{Spoilt: true}}, false},
		{"a zero bind that is spoilt", impl.Hello{Draw: 9, Bind: impl.Box{Spoilt: true}}, false},

		{"a wrong seal", impl.Hello{Draw: 9, Seal: impl.Box{Key: seal.Key, No: 1001}, Age: 20, Bind: bind}, false},
		{"a seal without a key", impl.Hello{Draw: 9, Seal: impl.Box{Text: seal.Text}, Age: 20, Bind: bind}, false},
		{"a wrong bind", impl.Hello{Draw: 9, Seal: seal, Age: 20, Bind: impl.Box{Key: bind.Key, No: -1}}, false},
		{"a bind without a key", impl.Hello{Draw: 9, Seal: seal, Age: 20, Bind: impl.Box{Text: bind.Text}}, false},
		{"a spoilt seal", impl.Hello{Draw: 9, Seal: impl.Spoil(seal), Age: 20, Bind: bind}, true},
		{"a spoilt bind", impl.Hello{Draw: 9, Seal: seal, Age: 20, Bind: impl.Spoil(bind)}, true},
		{"any box as seal and bind", impl.Hello{Draw: 9, Seal: bind, Age: 20, Bind: seal}, true},
	} {
		if got := impl.HelloOk(c.hello); got != c.want {
			t.Errorf("%s: HelloOk(%v) = %v", c.name, c.hello, got)
		}
	}
}

func TestHelloOkOfEach(t *testing.T) {
	right := 0
	eachHello(t, func(h impl.Hello) {
		want := helloIsRight(h)
		if got := impl.HelloOk(h); got != want {
			t.Fatalf("HelloOk(%v) = %v", h, got)
		}
		if want {
			right++
		}
	})
	// Of 5 draws: 2 without a token, and of 5 ages and 7 right boxes twice 3 with one.
	if right != 5*(2+5*7*7*3) {
		t.Fatalf("%d are right", right)
	}
}

func TestHelloOkOfEachBox(t *testing.T) {
	seal, bind := mustToken(t, 1, 5, 70, 100, 20).Seal, bindOf(5, 9, false, 20, true)
	eachBox(func(b impl.Box) {
		for _, h := range []impl.Hello{
			{Draw: 9, Seal: b, Age: 20, Bind: bind, Early: true},
			{Draw: 9, Seal: seal, Age: 20, Bind: b, Early: true},
			{Draw: 9, Seal: b, Bind: b},
			{Draw: 9, Again: true, Seal: b},
			{Draw: 9, Bind: b},
		} {
			if got := impl.HelloOk(h); got != helloIsRight(h) {
				t.Fatalf("HelloOk(%v) = %v", h, got)
			}
		}
	})
}

func TestGreeting(t *testing.T) {
	for _, draw := range helloDraws {
		for _, again := range eitherWay {
			want, right := noHello, draw >= 1 && draw <= 100000
			if right {
				want = impl.Hello{Draw: draw, Again: again}
			}
			got, is := impl.Greeting(draw, again)
			if got != want || is != right || impl.HelloOk(got) != right {
				t.Errorf("Greeting(%d, %v) = %v, %v", draw, again, got, is)
			}
		}
	}
}

func TestGreetingWith(t *testing.T) {
	k := mustToken(t, 1, 5, 70, 100, 20)
	spoilt, changed, bare := k, k, k
	spoilt.Seal.Spoilt = true
	changed.Most = 21
	bare.Seal = noBox
	short := mustToken(t, 1, 100000, 0, 1, 0)
	last := mustToken(t, 1, 1, 99000, 1000, 0)
	over := mustToken(t, 1, 1, 99999, 1000, 0)
	for _, c := range []struct {
		name  string
		draw  int64
		again bool
		token impl.Token
		early bool
		now   int64
		// Of what is refused, nothing is written.
		no   int64
		text string
	}{
		{"ordinary", 9, false, k, false, 90, 0, "20-0"},
		{"early", 9, false, k, true, 90, 0, "20-1"},
		{"again", 9, true, k, false, 90, 1, "20-0"},
		{"early again", 9, true, k, true, 90, 0, ""},
		{"the least draw", 1, false, k, true, 90, 0, "20-1"},
		{"the largest draw", 100000, false, k, true, 90, 0, "20-1"},
		{"one ahead of the least draw", 0, false, k, true, 90, 0, ""},
		{"one past the largest draw", 100001, false, k, true, 90, 0, ""},
		{"a draw below 0", -9, true, k, false, 90, 0, ""},
		{"the token's own secret", 5, false, k, true, 90, 0, "20-1"},
		{"now at its birth", 9, false, k, true, 70, 0, "0-1"},
		{"now at its birth, again", 9, true, k, false, 70, 1, "0-0"},
		{"one ahead of its birth", 9, false, k, true, 69, 0, ""},
		{"fresh for the last time", 9, false, k, true, 170, 0, "100-1"},
		{"one more", 9, false, k, true, 171, 0, ""},
		{"not fresh, not early", 9, false, k, false, 171, 0, ""},
		{"not fresh, again", 9, true, k, false, 171, 0, ""},
		{"a short life, at its end", 9, false, short, true, 1, 0, "1-1"},
		{"a short life, behind its end", 9, false, short, true, 2, 0, ""},
		{"the longest life, at the last time", 9, true, last, false, 100000, 1, "1000-0"},
		{"the last time", 9, false, over, false, 100000, 0, "1-0"},
		{"fresh yet, but now is no time", 9, false, over, false, 100001, 0, ""},
		{"below 0", 9, false, short, false, -1, 0, ""},
		{"the least int64", 9, false, k, true, math.MinInt64, 0, ""},
		{"the largest int64", 9, false, k, true, math.MaxInt64, 0, ""},
		{"a spoilt seal", 9, false, spoilt, true, 90, 0, "20-1"},
		{"the zero Token", 9, false, noToken, false, 0, 0, ""},
		{"the zero Token, again", 9, true, noToken, false, 0, 0, ""},
		{"what is written is another one", 9, false, changed, true, 90, 0, ""},
		{"no seal", 9, false, bare, true, 90, 0, ""},
		{"nothing right", 0, true, noToken, true, -1, 0, ""},
	} {
		want := noHello
		if c.text != "" {
			bind := impl.Box{Key: impl.Key{Use: 2, Secret: c.token.Secret, Hello: c.draw}, No: c.no, Text: c.text}
			want = impl.Hello{Draw: c.draw, Again: c.again, Seal: c.token.Seal, Age: c.now - c.token.Born, Bind: bind, Early: c.early}
		}
		got, is := impl.GreetingWith(c.draw, c.again, c.token, c.early, c.now)
		if got != want || is != (c.text != "") {
			t.Errorf("%s: %v, %v", c.name, got, is)
		}
		if c.text != "" && !impl.HelloOk(got) {
			t.Errorf("%s: %v is not right", c.name, got)
		}
	}
}

// TestGreetingWithEach: each draw, with right and wrong tokens, at each time.
func TestGreetingWithEach(t *testing.T) {
	tokens := append(tokensFrom(t, 5, 3), wrongTokens(t)...)
	tokens = append(tokens,
		mustToken(t, 0, 100000, 100000, 1000, 100),
		mustToken(t, 1, 1, 21, 1, 0),
		mustToken(t, 100000, 7, 99999, 1000, 0),
	)
	for _, draw := range helloDraws {
		for _, k := range tokens {
			for _, now := range purseNows {
				for _, again := range eitherWay {
					for _, early := range eitherWay {
						checkGreetingWith(t, "each", draw, again, k, early, now)
					}
				}
			}
		}
	}
}

// TestGreetingWithAtEachAge: each age of the longest life is written as its number.
func TestGreetingWithAtEachAge(t *testing.T) {
	k := mustToken(t, 1, 5, 70, 1000, 20)
	for now := range int64(1200) {
		checkGreetingWith(t, "at each age", 9, false, k, true, now)
		checkGreetingWith(t, "at each age, again", 9, true, k, false, now)
		if now < 70 || now > 1070 {
			continue
		}
		h := mustGreetWith(t, 9, false, k, true, now)
		if !impl.Binds(h, 5) || impl.SaidAt(h, k) != now {
			t.Fatalf("Binds(%v, 5) = %v, SaidAt it = %d", h, impl.Binds(h, 5), impl.SaidAt(h, k))
		}
	}
}

func TestBinds(t *testing.T) {
	k := mustToken(t, 1, 5, 70, 100, 20)
	first := mustGreetWith(t, 9, false, k, true, 90)
	plain := mustGreetWith(t, 9, false, k, false, 90)
	again := mustGreetWith(t, 9, true, k, false, 90)
	with := func(h impl.Hello, change func(h *impl.Hello)) impl.Hello {
		change(&h)
		return h
	}
	for _, c := range []struct {
		name   string
		hello  impl.Hello
		secret int64
		want   bool
	}{
		{"early", first, 5, true},
		{"not early", plain, 5, true},
		{"again", again, 5, true},
		{"another secret", first, 6, false},
		{"no secret", first, 0, false},
		{"a secret below 0", first, -5, false},
		{"a secret past the largest", first, 100001, false},
		{"its draw is no secret", first, 9, false},
		{"its inn is no secret", first, 1, false},
		{"again, another secret", again, 4, false},

		{"another draw", with(first, func(h *impl.Hello) { h.Draw = 10 }), 5, false},
		{"no draw", with(first, func(h *impl.Hello) { h.Draw = 0 }), 5, false},
		{"one older", with(first, func(h *impl.Hello) { h.Age = 21 }), 5, false},
		{"one younger", with(first, func(h *impl.Hello) { h.Age = 19 }), 5, false},
		{"age 0", with(first, func(h *impl.Hello) { h.Age = 0 }), 5, false},
		{"age 2", with(first, func(h *impl.Hello) { h.Age = 2 }), 5, false},
		{"early no more", with(first, func(h *impl.Hello) { h.Early = false }), 5, false},
		{"made early", with(plain, func(h *impl.Hello) { h.Early = true }), 5, false},
		{"made the second one", with(plain, func(h *impl.Hello) { h.Again = true }), 5, false},
		{"made the first one", with(again, func(h *impl.Hello) { h.Again = false }), 5, false},
		{"the second one, made early", with(again, func(h *impl.Hello) { h.Early = true }), 5, false},
		{"another seal", with(first, func(h *impl.Hello) { h.Seal = mustToken(t, 2, 6, 0, 1, 0).Seal }), 5, true},
		{"a spoilt seal", with(first, func(h *impl.Hello) { h.Seal = impl.Spoil(h.Seal) }), 5, true},
		{"no seal", with(first, func(h *impl.Hello) { h.Seal = noBox }), 5, false},

		{"a spoilt bind", with(first, func(h *impl.Hello) { h.Bind = impl.Spoil(h.Bind) }), 5, false},
		{"no bind", with(first, func(h *impl.Hello) { h.Bind = noBox }), 5, false},
		{"the bind of the second one", with(plain, func(h *impl.Hello) { h.Bind = again.Bind }), 5, false},
		{"the bind of the first one", with(again, func(h *impl.Hello) { h.Bind = plain.Bind }), 5, false},
		{"the bind of one that is early", with(plain, func(h *impl.Hello) { h.Bind = first.Bind }), 5, false},
		{"number 1", with(first, func(h *impl.Hello) { h.Bind.No = 1 }), 5, false},
		{"number 2, again", with(again, func(h *impl.Hello) { h.Bind.No = 2 }), 5, false},
		{"number 0, again", with(again, func(h *impl.Hello) { h.Bind.No = 0 }), 5, false},
		{"a wrong number", with(first, func(h *impl.Hello) { h.Bind.No = -1 }), 5, false},
		{"an early key", with(first, func(h *impl.Hello) { h.Bind.Key = impl.EarlyKey(5, 9) }), 5, false},
		{"a token's key", with(first, func(h *impl.Hello) { h.Bind.Key = impl.TokenKey(5) }), 5, false},
		{"a hand key", with(first, func(h *impl.Hello) { h.Bind.Key = impl.HandKey(5, 9, 2) }), 5, false},
		{"secret and draw changed about", with(first, func(h *impl.Hello) { h.Bind.Key = impl.BindKey(9, 5) }), 5, false},
		{"a wrong key alike", with(first, func(h *impl.Hello) { h.Bind.Key.Secret = -1 }), -1, false},
		{"the zero Key alike", with(first, func(h *impl.Hello) { h.Bind.Key = noKey }), -1, false},
		{"locked by no secret", with(first, func(h *impl.Hello) { h.Bind.Key = impl.BindKey(0, 9) }), 0, true},

		{"an age below 0 in both", impl.Hello{Draw: 9, Seal: k.Seal, Age: -1, Bind: bindOf(5, 9, false, -1, true), Early: true}, 5, false},
		{"an age past MaxTime in both", impl.Hello{Draw: 9, Seal: k.Seal, Age: 100001, Bind: bindOf(5, 9, false, 100001, true), Early: true}, 5, false},
		{"age MaxTime in both", impl.Hello{Draw: 9, Seal: k.Seal, Age: 100000, Bind: bindOf(5, 9, false, 100000, true), Early: true}, 5, true},
		{"age 0 in both", impl.Hello{Draw: 9, Seal: k.Seal, Bind: bindOf(5, 9, false, 0, true), Early: true}, 5, true},
		{"early and again in both", impl.Hello{Draw: 9, Again: true, Seal: k.Seal, Age: 20, Bind: bindOf(5, 9, true, 20, true), Early: true}, 5, false},

		{"without a token", mustGreet(t, 9, false), 5, false},
		{"without a token, again", mustGreet(t, 9, true), 5, false},
		{"without a token, no secret", mustGreet(t, 9, false), 0, false},
		{"the zero Hello", noHello, 5, false},
		{"the zero Hello, no secret", noHello, 0, false},
	} {
		if got := impl.Binds(c.hello, c.secret); got != c.want {
			t.Errorf("%s: Binds(%v, %d) = %v", c.name, c.hello, c.secret, got)
		}
	}
}

func TestBindsText(t *testing.T) {
	seal := mustToken(t, 1, 5, 70, 100, 20).Seal
	for _, c := range []struct {
		text  string
		age   int64
		early bool
		want  bool
	}{
		{"20-1", 20, true, true},
		{"20-0", 20, false, true},
		{"0-0", 0, false, true},
		{"0-1", 0, true, true},
		{"100000-1", 100000, true, true},
		{"99999-0", 99999, false, true},
		{"20-1", 20, false, false},
		{"20-0", 20, true, false},
		{"21-1", 20, true, false},
		{"2-1", 20, true, false},
		{"200-1", 20, true, false},
		{"120-1", 20, true, false},

		{"020-1", 20, true, false},
		{"00-1", 0, true, false},
		{"00-0", 0, false, false},
		{"01-1", 1, true, false},
		{"20-01", 20, true, false},
		{"20-00", 20, false, false},
		{"000000020-1", 20, true, false},

		{"", 0, false, false},
		{"-", 0, false, false},
		{"0", 0, false, false},
		{"0-", 0, false, false},
		{"-0", 0, false, false},
		{"-1", 0, true, false},
		{"20", 20, false, false},
		{"20-", 20, false, false},
		{"201", 20, true, false},
		{"20-1-", 20, true, false},
		{"20-1-1", 20, true, false},
		{"20-0-0", 20, false, false},
		{"5-20-1", 20, true, false},
		{"-20-1", 20, true, false},
		{"20--1", 20, true, false},
		{"20-10", 20, true, false},
		{"20-11", 20, true, false},

		{"20-2", 20, true, false},
		{"20-2", 20, false, false},
		{"20-+1", 20, true, false},
		{"+20-1", 20, true, false},
		{"--20-1", 20, true, false},
		{"-0-0", 0, false, false},
		{" 20-1", 20, true, false},
		{"20-1 ", 20, true, false},
		{"20 -1", 20, true, false},
		{"20-1\n", 20, true, false},
		{"20-1\x00", 20, true, false},
		{"\x0020-1", 20, true, false},
		{"20-\x01", 20, true, false},
		{"20-true", 20, true, false},
		{"20-y", 20, true, false},
		{"20-", 20, true, false},
		{"20 1", 20, true, false},
		{"20.1", 20, true, false},
		{"20/1", 20, true, false},
		{"2_0-1", 20, true, false},
		{"2e1-1", 20, true, false},
		{"0x14-1", 20, true, false},
		{"1:-1", 20, true, false},
		{"2/-1", 19, true, false},
		{"2/-1", 275, true, false},
		{"/-1", 255, true, false},
		{"a-1", 49, true, false},
		{"\u0662\u0660-1", 20, true, false},
		{"20\u20131", 20, true, false},
		{"1-20", 20, true, false},
		{"hay", 0, false, false},

		// Each would be the age itself, if it wrapped.
		{"276-1", 20, true, false},
		{"65556-1", 20, true, false},
		{"4294967316-1", 20, true, false},
		{"18446744073709551636-1", 20, true, false},
		{"18446744073709551616-0", 0, false, false},
		{"36893488147419103252-1", 20, true, false},
		{"340282366920938463463374607431768211476-1", 20, true, false},
		{"100000000000000000000000000000000000000", 0, false, false},
	} {
		h := impl.Hello{Draw: 9, Seal: seal, Age: c.age, Bind: impl.Box{Key: impl.BindKey(5, 9), Text: c.text}, Early: c.early}
		if got := impl.Binds(h, 5); got != c.want {
			t.Errorf("Binds of %q, age %d, early %v = %v", c.text, c.age, c.early, got)
		}
		if checkBinds(t, "by the model", h, 5) != c.want {
			t.Errorf("the model of %q, age %d, early %v", c.text, c.age, c.early)
		}
	}
}

// TestBindsOfEachShortText goes through all texts of up to 7 of these bytes.
func TestBindsOfEachShortText(t *testing.T) {
	seal := mustToken(t, 1, 5, 70, 100, 20).Seal
	ages := []int64{0, 1, 2, 10, 11, 12, 20, 101, 1000, 10000, 100000}
	texts, bind := []string{""}, 0
	for begin := 0; begin < len(texts); begin++ {
		text := texts[begin]
		for _, age := range ages {
			for _, early := range eitherWay {
				h := impl.Hello{Draw: 9, Seal: seal, Age: age, Bind: impl.Box{Key: impl.BindKey(5, 9), Text: text}, Early: early}
				if checkBinds(t, "short", h, 5) {
					bind++
				}
			}
		}
		if len(text) == 7 {
			continue
		}
		for _, c := range "012-" {
			texts = append(texts, text+string(c))
		}
	}
	// All but the last age are written in up to 7 bytes with what stands behind them.
	if bind != 2*(len(ages)-1) {
		t.Fatalf("%d bind", bind)
	}
}

// TestBindsOfAChangedText has one byte of a right text changed, left out, or put in, at each place.
func TestBindsOfAChangedText(t *testing.T) {
	seal := mustToken(t, 1, 5, 70, 100, 20).Seal
	for _, age := range []int64{0, 7, 20, 99999, 100000} {
		for _, early := range eitherWay {
			right := bindOf(5, 9, false, age, early).Text
			bind := 0
			for i := range len(right) + 1 {
				for c := range 256 {
					one := string([]byte{byte(c)})
					changed := []string{right[:i] + one + right[i:]}
					if i < len(right) {
						changed = append(changed, right[:i]+one+right[i+1:], right[:i]+right[i+1:])
					}
					for _, text := range changed {
						h := impl.Hello{Draw: 9, Seal: seal, Age: age, Bind: impl.Box{Key: impl.BindKey(5, 9), Text: text}, Early: early}
						if checkBinds(t, "changed", h, 5) {
							bind++
						}
					}
				}
			}
			// Only where a byte is changed to itself it binds.
			if bind != len(right) {
				t.Fatalf("%d bind of those like %q", bind, right)
			}
		}
	}
}

func TestBindsOfEach(t *testing.T) {
	bind := 0
	eachHello(t, func(h impl.Hello) {
		for _, secret := range []int64{5, 0, -1, 9, 100001} {
			if checkBinds(t, "each", h, secret) {
				bind++
			}
		}
	})
	// Draw 9, age 20, 7 right seals, once early and once again.
	if bind != 14 {
		t.Fatalf("%d bind", bind)
	}
}

// TestBindsOfEachBox: only the very box binds, whatever else is locked by whomever.
func TestBindsOfEachBox(t *testing.T) {
	seal := mustToken(t, 1, 5, 70, 100, 20).Seal
	eachKey(func(k impl.Key) {
		for _, no := range []int64{-1, 0, 1, 2, 1000, 1001} {
			for _, again := range eitherWay {
				h := impl.Hello{Draw: 7, Again: again, Seal: seal, Age: 20, Bind: impl.Box{Key: k, No: no, Text: "20-0"}}
				checkBinds(t, "each box", h, 2)
				checkBinds(t, "each box, its own secret", h, k.Secret)
			}
		}
	})
}

// TestWhoHasNotTheSecretDoesNotBind: of each token's greeting, none but its very secret binds, and it does.
func TestWhoHasNotTheSecretDoesNotBind(t *testing.T) {
	secrets := []int64{1, 2, 5, 6, 9, 255, 256, 99999, 100000}
	asked := append(slices.Clone(noDraws), secrets...)
	for _, own := range secrets {
		k := mustToken(t, 1, own, 70, 100, 20)
		for _, draw := range []int64{1, 2, 5, 9, 100000} {
			for _, h := range []impl.Hello{
				mustGreetWith(t, draw, false, k, true, 90),
				mustGreetWith(t, draw, false, k, false, 90),
				mustGreetWith(t, draw, true, k, false, 90),
			} {
				for _, secret := range asked {
					if got := impl.Binds(h, secret); got != (secret == own) {
						t.Fatalf("Binds(%v, %d) = %v", h, secret, got)
					}
				}
			}
		}
	}
	h := mustGreetWith(t, 9, false, mustToken(t, 1, 5, 70, 100, 20), true, 90)
	for secret := range int64(100002) {
		if impl.Binds(h, secret) != (secret == 5) {
			t.Fatalf("Binds(%v, %d)", h, secret)
		}
	}
}

// TestWhoStandsOnTheWayDoesNotBind: without a key one may lay the boxes of all greetings that went by into others, and spoil them; nothing binds but what was said.
func TestWhoStandsOnTheWayDoesNotBind(t *testing.T) {
	said, boxes := map[impl.Hello]int64{}, []impl.Box{noBox}
	for _, secret := range []int64{5, 6} {
		k := mustToken(t, 1, secret, 70, 100, 20)
		boxes = append(boxes, k.Seal, impl.Spoil(k.Seal))
		for _, draw := range []int64{9, 10} {
			for _, now := range []int64{70, 71, 90} {
				for _, h := range []impl.Hello{
					mustGreetWith(t, draw, false, k, true, now),
					mustGreetWith(t, draw, false, k, false, now),
					mustGreetWith(t, draw, true, k, false, now),
				} {
					said[h] = secret
					boxes = append(boxes, h.Bind, impl.Spoil(h.Bind))
				}
			}
		}
	}
	bind := 0
	for h, own := range said {
		for _, b := range boxes {
			forged := h
			forged.Bind = b
			for _, draw := range []int64{9, 10, 11} {
				for _, age := range []int64{0, 1, 2, 20} {
					for _, again := range eitherWay {
						for _, early := range eitherWay {
							forged.Draw, forged.Age, forged.Again, forged.Early = draw, age, again, early
							if !impl.Binds(forged, own) {
								continue
							}
							bind++
							if said[forged] != own {
								t.Fatalf("%v binds by %d, but was not said", forged, own)
							}
						}
					}
				}
			}
		}
	}
	// Each of the 36 may be made of any other one with the same seal, and of itself.
	if len(said) != 36 || bind != 36*18 {
		t.Fatalf("%d said, %d bind", len(said), bind)
	}
}

func TestSaidAt(t *testing.T) {
	k := mustToken(t, 1, 5, 70, 100, 20)
	h := mustGreetWith(t, 9, false, k, true, 90)
	aged := func(age int64) impl.Hello {
		h := h
		h.Age = age
		return h
	}
	last := mustToken(t, 1, 5, 100000, 1000, 20)
	zero := mustToken(t, 1, 5, 0, 1000, 20)
	wrong, bare := k, h
	wrong.Life = 101
	bare.Bind = noBox
	for _, c := range []struct {
		name  string
		hello impl.Hello
		token impl.Token
		want  int64
	}{
		{"ordinary", h, k, 90},
		{"age 0", aged(0), k, 70},
		{"born at 0", h, zero, 20},
		{"born at 0, age 0", aged(0), zero, 0},
		{"older than its life", aged(5000), k, 5070},
		{"MaxTime", aged(99930), k, 100000},
		{"one more than MaxTime", aged(99931), k, -1},
		{"MaxTime, born at 0", aged(100000), zero, 100000},
		{"MaxTime, age 0", aged(0), last, 100000},
		{"one more, born at MaxTime", aged(1), last, -1},
		{"twice MaxTime", aged(100000), last, -1},
		{"age one ahead of 0", aged(-1), k, -1},
		{"age as far below 0 as its birth", aged(-70), k, -1},
		{"age one past MaxTime", aged(100001), zero, -1},
		{"the largest int64", aged(math.MaxInt64), k, -1},
		{"the least int64", aged(math.MinInt64), k, -1},
		{"another one's token", h, mustToken(t, 2, 6, 300, 1, 0), 320},
		{"again", mustGreetWith(t, 9, true, k, false, 100), k, 100},
		{"without a token", mustGreet(t, 9, false), k, 70},
		{"the zero Hello", noHello, k, -1},
		{"the zero Token", h, noToken, -1},
		{"both are zero", noHello, noToken, -1},
		{"a wrong Hello", bare, k, -1},
		{"a wrong Token", h, wrong, -1},
		{"a spoilt Hello", impl.Hello{Draw: 9, Seal: impl.Spoil(h.Seal), Age: 20, Bind: impl.Spoil(h.Bind), Early: true}, k, 90},
	} {
		if got := impl.SaidAt(c.hello, c.token); got != c.want {
			t.Errorf("%s: SaidAt(%v, %v) = %d", c.name, c.hello, c.token, got)
		}
	}
}

func TestSaidAtOfEach(t *testing.T) {
	tokens := append(wrongTokens(t),
		mustToken(t, 1, 5, 70, 100, 20),
		mustToken(t, 1, 5, 0, 1, 0),
		mustToken(t, 1, 5, 99980, 1, 0),
		mustToken(t, 1, 5, 99981, 1, 0),
		mustToken(t, 1, 5, 100000, 1000, 0),
	)
	eachHello(t, func(h impl.Hello) {
		for _, k := range tokens {
			if got := impl.SaidAt(h, k); got != wantSaidAt(h, k) {
				t.Fatalf("SaidAt(%v, %v) = %d", h, k, got)
			}
		}
	})
}

// TestHelloArgumentsStay: all of them are values, and so are their texts, but they are asked of twice with one answer.
func TestHelloArgumentsStay(t *testing.T) {
	k := mustToken(t, 1, 5, 70, 100, 20)
	keptToken := k
	eachHello(t, func(h impl.Hello) {
		kept := h
		impl.HelloOk(h)
		impl.SaidAt(h, k)
		one := impl.Binds(h, 5)
		if h != kept || k != keptToken || impl.Binds(h, 5) != one {
			t.Fatalf("of %v now %v, the token %v", kept, h, k)
		}
	})
	for _, now := range purseNows {
		first, is := impl.GreetingWith(9, false, k, true, now)
		first.Seal.Text, first.Bind.Text = "hay", "hay"
		if second, has := impl.GreetingWith(9, false, k, true, now); is != has || second.Bind.Text == "hay" || k != keptToken {
			t.Fatalf("at %d: %v, %v, the token %v", now, second, has, k)
		}
	}
}
