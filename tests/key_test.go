package tests

import (
	"math"
	"testing"

	"loop.example/g00558/impl"
)

var noKey = impl.Key{}

// keyNumbers are draws and none: both ends of their range, what is one past them, and what a narrower integer would take for a draw.
var keyNumbers = []int64{
	math.MinInt64, math.MinInt64 + 1, -100000, -1, 0, 1, 2, 7, 99999, 100000, 100001,
	1 << 32, 1<<32 + 7, math.MaxInt64 - 1, math.MaxInt64,
}

var keyUses = []int64{
	math.MinInt64, -6, -1, 0, 1, 2, 3, 4, 5, 6, 7, 8, 9, 1<<8 + 3, 1<<32 + 1, math.MaxInt64,
}

// keyIsRight says what chapter 3 says, number by number.
func keyIsRight(use, secret, hello, answer int64) bool {
	within := func(n, least int64) bool { return n >= least && n <= 100000 }
	if !within(secret, 0) {
		return false
	}
	switch use {
	case 1, 2:
		return within(hello, 1) && answer == 0
	case 3, 4, 5:
		return within(hello, 1) && within(answer, 1)
	case 6:
		return hello == 0 && answer == 0
	}
	return false
}

func eachKey(f func(impl.Key)) {
	for _, use := range keyUses {
		for _, secret := range keyNumbers {
			for _, hello := range keyNumbers {
				for _, answer := range keyNumbers {
					f(impl.Key{Use: use, Secret: secret, Hello: hello, Answer: answer})
				}
			}
		}
	}
}

func TestKeyUses(t *testing.T) {
	got := [6]int64{impl.KyEarly, impl.KyBind, impl.KyHand, impl.KyForth, impl.KyBack, impl.KyToken}
	if got != [6]int64{1, 2, 3, 4, 5, 6} {
		t.Fatal(got)
	}
}

func TestKeyOk(t *testing.T) {
	for _, c := range []struct {
		name string
		key  impl.Key
		want bool
	}{
		{"the zero Key", impl.Key{}, false},
		{"early", impl.Key{Use: 1, Secret: 7, Hello: 2}, true},
		{"bind", impl.Key{Use: 2, Secret: 7, Hello: 2}, true},
		{"hand", impl.Key{Use: 3, Secret: 7, Hello: 2, Answer: 3}, true},
		{"forth", impl.Key{Use: 4, Secret: 7, Hello: 2, Answer: 3}, true},
		{"back", impl.Key{Use: 5, Secret: 7, Hello: 2, Answer: 3}, true},
		{"token", impl.Key{Use: 6, Secret: 7}, true},
		{"no use", impl.Key{Use: 0, Secret: 7, Hello: 2, Answer: 3}, false},
		{"a use below 0", impl.Key{Use: -1, Secret: 7, Hello: 2, Answer: 3}, false},
		{"a use past the last one", impl.Key{Use: 7, Secret: 7}, false},
		{"no use and wrong numbers", impl.Key{Secret: 7, Hello: -1, Answer: -1}, false},
		{"none is shared", impl.Key{Use: 3, Secret: 0, Hello: 2, Answer: 3}, true},
		{"early, none is shared", impl.Key{Use: 1, Secret: 0, Hello: 2}, true},
		{"token, none is shared", impl.Key{Use: 6}, true},
		{"a secret below 0", impl.Key{Use: 3, Secret: -1, Hello: 2, Answer: 3}, false},
		{"the largest secret", impl.Key{Use: 3, Secret: 100000, Hello: 2, Answer: 3}, true},
		{"a secret past the largest", impl.Key{Use: 3, Secret: 100001, Hello: 2, Answer: 3}, false},
		{"a token's secret past the largest", impl.Key{Use: 6, Secret: 100001}, false},
		{"early without a hello", impl.Key{Use: 1, Secret: 7}, false},
		{"bind without a hello", impl.Key{Use: 2, Secret: 7}, false},
		{"hand without a hello", impl.Key{Use: 3, Secret: 7, Answer: 3}, false},
		{"a hello below 0", impl.Key{Use: 1, Secret: 7, Hello: -1}, false},
		{"the largest hello", impl.Key{Use: 1, Secret: 7, Hello: 100000}, true},
		{"a hello past the largest", impl.Key{Use: 1, Secret: 7, Hello: 100001}, false},
		{"token with a hello", impl.Key{Use: 6, Secret: 7, Hello: 2}, false},
		{"token with a wrong hello", impl.Key{Use: 6, Secret: 7, Hello: -2}, false},
		{"early with an answer", impl.Key{Use: 1, Secret: 7, Hello: 2, Answer: 3}, false},
		{"bind with an answer", impl.Key{Use: 2, Secret: 7, Hello: 2, Answer: 3}, false},
		{"token with an answer", impl.Key{Use: 6, Secret: 7, Answer: 3}, false},
		{"early with a wrong answer", impl.Key{Use: 1, Secret: 7, Hello: 2, Answer: -1}, false},
		{"hand without an answer", impl.Key{Use: 3, Secret: 7, Hello: 2}, false},
		{"forth without an answer", impl.Key{Use: 4, Secret: 7, Hello: 2}, false},
		{"back without an answer", impl.Key{Use: 5, Secret: 7, Hello: 2}, false},
		{"an answer below 0", impl.Key{Use: 4, Secret: 7, Hello: 2, Answer: -1}, false},
		{"the largest answer", impl.Key{Use: 4, Secret: 7, Hello: 2, Answer: 100000}, true},
		{"an answer past the largest", impl.Key{Use: 4, Secret: 7, Hello: 2, Answer: 100001}, false},
		{"all numbers alike", impl.Key{Use: 5, Secret: 2, Hello: 2, Answer: 2}, true},
	} {
		if got := impl.KeyOk(c.key); got != c.want {
			t.Errorf("%s: KeyOk(%v) = %v", c.name, c.key, got)
		}
	}
}

func TestKeyOkOfEachKey(t *testing.T) {
	eachKey(func(k impl.Key) {
		if got := impl.KeyOk(k); got != keyIsRight(k.Use, k.Secret, k.Hello, k.Answer) {
			t.Fatalf("KeyOk(%v) = %v", k, got)
		}
	})
}

// keyMakers are the six makers by their uses; each takes as many of the three numbers as it has.
var keyMakers = []struct {
	name string
	use  int64
	has  int
	make func(secret, hello, answer int64) impl.Key
}{
	{"EarlyKey", 1, 2, func(s, h, _ int64) impl.Key { return impl.EarlyKey(s, h) }},
	{"BindKey", 2, 2, func(s, h, _ int64) impl.Key { return impl.BindKey(s, h) }},
	{"HandKey", 3, 3, impl.HandKey},
	{"ForthKey", 4, 3, impl.ForthKey},
	{"BackKey", 5, 3, impl.BackKey},
	{"TokenKey", 6, 1, func(s, _, _ int64) impl.Key { return impl.TokenKey(s) }},
}

// numbersTaken goes through all that a maker of so many numbers may be given; those it does not take are 0.
func numbersTaken(has int, from []int64, f func(secret, hello, answer int64)) {
	hellos, answers := from, from
	if has < 2 {
		hellos = []int64{0}
	}
	if has < 3 {
		answers = []int64{0}
	}
	for _, secret := range from {
		for _, hello := range hellos {
			for _, answer := range answers {
				f(secret, hello, answer)
			}
		}
	}
}

func TestKeysAreMade(t *testing.T) {
	for _, m := range keyMakers {
		numbersTaken(m.has, keyNumbers, func(secret, hello, answer int64) {
			want := noKey
			if keyIsRight(m.use, secret, hello, answer) {
				want = impl.Key{Use: m.use, Secret: secret, Hello: hello, Answer: answer}
			}
			if got := m.make(secret, hello, answer); got != want {
				t.Fatalf("%s of %d, %d, %d = %v", m.name, secret, hello, answer, got)
			}
		})
	}
}

func TestKeysAtTheirLimits(t *testing.T) {
	for _, c := range []struct {
		name string
		got  impl.Key
		want impl.Key
	}{
		{"early", impl.EarlyKey(7, 2), impl.Key{Use: 1, Secret: 7, Hello: 2}},
		{"early, none is shared", impl.EarlyKey(0, 1), impl.Key{Use: 1, Hello: 1}},
		{"early, all met exactly", impl.EarlyKey(100000, 100000), impl.Key{Use: 1, Secret: 100000, Hello: 100000}},
		{"early, secret passed", impl.EarlyKey(100001, 2), noKey},
		{"early, secret below 0", impl.EarlyKey(-1, 2), noKey},
		{"early, hello passed", impl.EarlyKey(7, 100001), noKey},
		{"early, hello 0", impl.EarlyKey(7, 0), noKey},
		{"bind", impl.BindKey(7, 2), impl.Key{Use: 2, Secret: 7, Hello: 2}},
		{"bind, hello below 0", impl.BindKey(7, -1), noKey},
		{"token", impl.TokenKey(7), impl.Key{Use: 6, Secret: 7}},
		{"token, none is shared", impl.TokenKey(0), impl.Key{Use: 6}},
		{"token, met exactly", impl.TokenKey(100000), impl.Key{Use: 6, Secret: 100000}},
		{"token, passed", impl.TokenKey(100001), noKey},
		{"token, below 0", impl.TokenKey(-1), noKey},
		{"hand", impl.HandKey(7, 2, 3), impl.Key{Use: 3, Secret: 7, Hello: 2, Answer: 3}},
		{"hand, answer 0", impl.HandKey(7, 2, 0), noKey},
		{"forth", impl.ForthKey(7, 2, 3), impl.Key{Use: 4, Secret: 7, Hello: 2, Answer: 3}},
		{"forth, all met exactly", impl.ForthKey(0, 1, 100000), impl.Key{Use: 4, Hello: 1, Answer: 100000}},
		{"forth, answer passed", impl.ForthKey(7, 2, 100001), noKey},
		{"back", impl.BackKey(7, 2, 3), impl.Key{Use: 5, Secret: 7, Hello: 2, Answer: 3}},
		{"back, answer below 0", impl.BackKey(7, 2, -1), noKey},
	} {
		if c.got != c.want {
			t.Errorf("%s: %v", c.name, c.got)
		}
	}
}

// TestKeysAreUnlike makes keys of all uses and of many right numbers: no two are alike, and none is the zero Key.
func TestKeysAreUnlike(t *testing.T) {
	type made struct {
		name    string
		numbers [3]int64
	}
	draws := []int64{1, 2, 3, 4, 7, 10, 12, 21, 255, 256, 257, 65536, 65537, 99999, 100000}
	had := map[impl.Key]made{}
	note := func(k impl.Key, by made) {
		if k == noKey || !impl.KeyOk(k) {
			t.Fatalf("%v makes %v", by, k)
		}
		if other, is := had[k]; is {
			t.Fatalf("%v and %v make %v", by, other, k)
		}
		had[k] = by
	}
	count := 0
	for _, m := range keyMakers {
		numbersTaken(m.has, draws, func(secret, hello, answer int64) {
			note(m.make(secret, hello, answer), made{m.name, [3]int64{secret, hello, answer}})
			count++
			if secret == draws[0] {
				note(m.make(0, hello, answer), made{m.name, [3]int64{0, hello, answer}})
				count++
			}
		})
	}
	if len(had) != count {
		t.Fatalf("%d keys of %d", len(had), count)
	}
}

func TestNextKey(t *testing.T) {
	for _, c := range []struct {
		name string
		key  impl.Key
		want impl.Key
	}{
		{"hand", impl.HandKey(7, 2, 3), impl.ForthKey(7, 2, 3)},
		{"forth", impl.ForthKey(7, 2, 3), impl.BackKey(7, 2, 3)},
		{"back", impl.BackKey(7, 2, 3), impl.HandKey(7, 2, 3)},
		{"hand, none is shared", impl.HandKey(0, 2, 3), impl.ForthKey(0, 2, 3)},
		{"at the limits", impl.ForthKey(100000, 100000, 100000), impl.BackKey(100000, 100000, 100000)},
		{"early", impl.EarlyKey(7, 2), noKey},
		{"bind", impl.BindKey(7, 2), noKey},
		{"token", impl.TokenKey(7), noKey},
		{"the zero Key", noKey, noKey},
		{"no use", impl.Key{Use: 0, Secret: 7, Hello: 2, Answer: 3}, noKey},
		{"a use past the last one", impl.Key{Use: 7, Secret: 7, Hello: 2, Answer: 3}, noKey},
		{"bind with the numbers of a hand", impl.Key{Use: 2, Secret: 7, Hello: 2, Answer: 3}, noKey},
		{"hand without an answer", impl.Key{Use: 3, Secret: 7, Hello: 2}, noKey},
		{"forth without a hello", impl.Key{Use: 4, Secret: 7, Answer: 3}, noKey},
		{"back with a secret below 0", impl.Key{Use: 5, Secret: -1, Hello: 2, Answer: 3}, noKey},
		{"hand past the limit", impl.Key{Use: 3, Secret: 7, Hello: 2, Answer: 100001}, noKey},
	} {
		if got := impl.NextKey(c.key); got != c.want {
			t.Errorf("%s: NextKey(%v) = %v", c.name, c.key, got)
		}
	}
}

// TestNextKeyOfEachKey: where there is a next one it has the same numbers, and the third one is the first again.
func TestNextKeyOfEachKey(t *testing.T) {
	nextUse := map[int64]int64{3: 4, 4: 5, 5: 3}
	eachKey(func(k impl.Key) {
		want := noKey
		if use := nextUse[k.Use]; use != 0 && keyIsRight(k.Use, k.Secret, k.Hello, k.Answer) {
			want = k
			want.Use = use
		}
		next := impl.NextKey(k)
		if next != want {
			t.Fatalf("NextKey(%v) = %v", k, next)
		}
		if next == noKey {
			return
		}
		if third := impl.NextKey(impl.NextKey(next)); third != k {
			t.Fatalf("three behind %v is %v", k, third)
		}
	})
}
