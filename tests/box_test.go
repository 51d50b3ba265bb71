package tests

import (
	"math"
	"strings"
	"testing"

	"loop.example/g00558/impl"
)

var noBox = impl.Box{}

// boxKeys are right keys of every use, among them such as differ in one number alone, and wrong ones.
var boxKeys = []impl.Key{
	impl.EarlyKey(7, 2), impl.EarlyKey(7, 3), impl.EarlyKey(8, 2), impl.EarlyKey(0, 2), impl.EarlyKey(100000, 100000),
	impl.BindKey(7, 2), impl.BindKey(2, 7),
	impl.HandKey(7, 2, 3), impl.HandKey(7, 3, 2), impl.HandKey(0, 2, 3), impl.HandKey(7, 2, 4),
	impl.ForthKey(7, 2, 3), impl.ForthKey(0, 2, 3), impl.ForthKey(100000, 100000, 100000),
	impl.BackKey(7, 2, 3), impl.BackKey(1, 1, 1),
	impl.TokenKey(7), impl.TokenKey(0), impl.TokenKey(100000),
	{},
	{Use: 0, Secret: 7, Hello: 2, Answer: 3},
	{Use: 7, Secret: 7},
	{Use: -1, Secret: 7, Hello: 2},
	{Use: impl.KyEarly, Secret: 7},
	{Use: impl.KyEarly, Secret: 7, Hello: 2, Answer: 3},
	{Use: impl.KyEarly, Secret: -1, Hello: 2},
	{Use: impl.KyBind, Secret: 100001, Hello: 2},
	{Use: impl.KyHand, Secret: 7, Hello: 2},
	{Use: impl.KyForth, Secret: 7, Hello: 2, Answer: 100001},
	{Use: impl.KyBack, Secret: 7, Hello: -2, Answer: 3},
	{Use: impl.KyToken, Secret: 7, Hello: 2},
	{Use: math.MaxInt64, Secret: math.MinInt64, Hello: math.MaxInt64, Answer: math.MinInt64},
}

// boxNos are both ends of the range, what is one past them, and what a narrower integer would take for one within.
var boxNos = []int64{
	math.MinInt64, math.MinInt64 + 3, -1000, -1, 0, 1, 2, 3, 4, 999, 1000, 1001, 1002,
	1<<16 + 3, 1 << 32, 1<<32 + 3, math.MaxInt64 - 1, math.MaxInt64,
}

// boxTexts are told by their bytes: some have fewer than 40 runes and more than 40 bytes, some are no right text of chapter 1.
var boxTexts = []string{
	"", "a", "hay", "haz", "HAY", "-1-2", " ", "\n", "\x00", "hay\x00", "\xff\xfe",
	strings.Repeat("a", 12), strings.Repeat("a", 13),
	strings.Repeat("a", 39), strings.Repeat("a", 40), strings.Repeat("a", 41),
	strings.Repeat("\u00e9", 20), strings.Repeat("\u00e9", 21), strings.Repeat("\u20ac", 14),
	strings.Repeat("a", 256), strings.Repeat("a", 65536+3),
}

// boxIsRight says what chapter 4 says; a spoilt box is a right one.
func boxIsRight(k impl.Key, no int64, text string) bool {
	return keyIsRight(k.Use, k.Secret, k.Hello, k.Answer) && no >= 0 && no <= 1000 && len(text) <= 40
}

func eachBox(f func(impl.Box)) {
	for _, k := range boxKeys {
		for _, no := range boxNos {
			for _, text := range boxTexts {
				f(impl.Box{Key: k, No: no, Text: text})
				f(impl.Box{Key: k, No: no, Text: text, Spoilt: true})
			}
		}
	}
}

func mustLock(t *testing.T, k impl.Key, no int64, text string) impl.Box {
	t.Helper()
	b, is := impl.Locked(k, no, text)
	if !is {
		t.Fatalf("Locked(%v, %d, %q) is false", k, no, text)
	}
	return b
}

// closed fails where the box opens, or where anything is told beside the false.
func closed(t *testing.T, name string, b impl.Box, k impl.Key, no int64) {
	t.Helper()
	if s, open := impl.Opened(b, k, no); open || s != "" {
		t.Fatalf("%s: Opened(%v, %v, %d) = %q, %v", name, b, k, no, s, open)
	}
}

func TestBoxLimits(t *testing.T) {
	if impl.MaxNo != 1000 || impl.MaxLong != 40 {
		t.Fatalf("MaxNo = %d, MaxLong = %d", impl.MaxNo, impl.MaxLong)
	}
}

func TestBoxOk(t *testing.T) {
	k := impl.EarlyKey(7, 2)
	for _, c := range []struct {
		name string
		box  impl.Box
		want bool
	}{
		{"the zero Box", noBox, false},
		{"an ordinary one", impl.Box{Key: k, No: 3, Text: "hay"}, true},
		{"spoilt", impl.Box{Key: k, No: 3, Text: "hay", Spoilt: true}, true},
		{"the zero Box, spoilt", impl.Box{Spoilt: true}, false},
		{"no key", impl.Box{No: 3, Text: "hay"}, false},
		{"a wrong key", impl.Box{Key: impl.Key{Use: 1, Secret: 7}, No: 3, Text: "hay"}, false},
		{"a key of no use", impl.Box{Key: impl.Key{Use: 7, Secret: 7}, No: 3, Text: "hay"}, false},
		{"a token's key", impl.Box{Key: impl.TokenKey(7), Text: "hay"}, true},
		{"a key of which none is shared", impl.Box{Key: impl.HandKey(0, 2, 3), Text: "1"}, true},
		{"the least number", impl.Box{Key: k, No: 0, Text: "hay"}, true},
		{"a number below 0", impl.Box{Key: k, No: -1, Text: "hay"}, false},
		{"the largest number", impl.Box{Key: k, No: 1000, Text: "hay"}, true},
		{"a number past the largest", impl.Box{Key: k, No: 1001, Text: "hay"}, false},
		{"the least int64", impl.Box{Key: k, No: math.MinInt64, Text: "hay"}, false},
		{"the largest int64", impl.Box{Key: k, No: math.MaxInt64, Text: "hay"}, false},
		{"an empty text", impl.Box{Key: k}, true},
		{"the longest text", impl.Box{Key: k, Text: strings.Repeat("x", 40)}, true},
		{"a text past the longest", impl.Box{Key: k, Text: strings.Repeat("x", 41)}, false},
		{"40 bytes, 20 runes", impl.Box{Key: k, Text: strings.Repeat("\u00e9", 20)}, true},
		{"42 bytes, 14 runes", impl.Box{Key: k, Text: strings.Repeat("\u20ac", 14)}, false},
		{"what is no text of chapter 1", impl.Box{Key: k, Text: "A-\x00\xff\n"}, true},
	} {
		if got := impl.BoxOk(c.box); got != c.want {
			t.Errorf("%s: BoxOk(%v) = %v", c.name, c.box, got)
		}
	}
}

func TestBoxOkOfEachBox(t *testing.T) {
	eachBox(func(b impl.Box) {
		if got := impl.BoxOk(b); got != boxIsRight(b.Key, b.No, b.Text) {
			t.Fatalf("BoxOk(%v) = %v", b, got)
		}
	})
}

// TestBoxOkOfEachKey: whatever key is no right one locks nothing.
func TestBoxOkOfEachKey(t *testing.T) {
	eachKey(func(k impl.Key) {
		b := impl.Box{Key: k, No: 3, Text: "hay"}
		if got := impl.BoxOk(b); got != boxIsRight(k, 3, "hay") {
			t.Fatalf("BoxOk(%v) = %v", b, got)
		}
	})
}

func TestLockedAtItsLimits(t *testing.T) {
	k := impl.ForthKey(7, 2, 3)
	long, longer := strings.Repeat("x", 40), strings.Repeat("x", 41)
	for _, c := range []struct {
		name string
		key  impl.Key
		no   int64
		text string
		want bool
	}{
		{"an ordinary one", k, 3, "hay", true},
		{"the least", k, 0, "", true},
		{"all met exactly", k, 1000, long, true},
		{"number passed by one", k, 1001, "hay", false},
		{"number below 0", k, -1, "hay", false},
		{"text passed by one", k, 3, longer, false},
		{"no key", noKey, 3, "hay", false},
		{"no key, nothing else", noKey, 0, "", false},
		{"a wrong key", impl.Key{Use: impl.KyForth, Secret: 7, Hello: 2}, 3, "hay", false},
		{"nothing right", noKey, -1, longer, false},
	} {
		want := noBox
		if c.want {
			want = impl.Box{Key: c.key, No: c.no, Text: c.text}
		}
		if got, is := impl.Locked(c.key, c.no, c.text); got != want || is != c.want {
			t.Errorf("%s: Locked(%v, %d, %q) = %v, %v", c.name, c.key, c.no, c.text, got, is)
		}
	}
}

func TestLockedOfEach(t *testing.T) {
	eachBox(func(b impl.Box) {
		if b.Spoilt {
			return
		}
		want := noBox
		right := boxIsRight(b.Key, b.No, b.Text)
		if right {
			want = b
		}
		if got, is := impl.Locked(b.Key, b.No, b.Text); got != want || is != right {
			t.Fatalf("Locked(%v, %d, %q) = %v, %v", b.Key, b.No, b.Text, got, is)
		}
	})
}

func TestOpened(t *testing.T) {
	k := impl.HandKey(7, 2, 3)
	b := mustLock(t, k, 3, "hay")
	if s, open := impl.Opened(b, k, 3); !open || s != "hay" {
		t.Fatalf("%q, %v", s, open)
	}
	for _, c := range []struct {
		name string
		key  impl.Key
		no   int64
	}{
		{"the number ahead", k, 2},
		{"the next number", k, 4},
		{"number 0", k, 0},
		{"the number below 0", k, -3},
		{"a number that is none", k, 1001},
		{"a number alike in its low bytes", k, 1<<32 + 3},
		{"another secret", impl.HandKey(8, 2, 3), 3},
		{"no secret", impl.HandKey(0, 2, 3), 3},
		{"another hello", impl.HandKey(7, 3, 3), 3},
		{"another answer", impl.HandKey(7, 2, 4), 3},
		{"hello and answer the other way round", impl.HandKey(7, 3, 2), 3},
		{"another use with the same numbers", impl.ForthKey(7, 2, 3), 3},
		{"the third use with the same numbers", impl.BackKey(7, 2, 3), 3},
		{"the use ahead of it", impl.BindKey(7, 2), 3},
		{"a token's key of that secret", impl.TokenKey(7), 3},
		{"no key", noKey, 3},
		{"no key, number 0", noKey, 0},
	} {
		closed(t, c.name, b, c.key, c.no)
	}
}

// TestEmptyTextIsOpened: what is in the box may be nothing, and it is open all the same.
func TestEmptyTextIsOpened(t *testing.T) {
	k := impl.TokenKey(7)
	b := mustLock(t, k, 0, "")
	if s, open := impl.Opened(b, k, 0); !open || s != "" {
		t.Fatalf("%q, %v", s, open)
	}
	closed(t, "another number", b, k, 1)
	closed(t, "spoilt", impl.Spoil(b), k, 0)
}

// TestWrongBoxIsNotOpened: not even by just the key and number that are in it.
func TestWrongBoxIsNotOpened(t *testing.T) {
	k := impl.EarlyKey(7, 2)
	for _, c := range []struct {
		name string
		box  impl.Box
	}{
		{"the zero Box", noBox},
		{"no key", impl.Box{No: 3, Text: "hay"}},
		{"a wrong key", impl.Box{Key: impl.Key{Use: impl.KyEarly, Secret: 7}, No: 3, Text: "hay"}},
		{"a secret below 0", impl.Box{Key: impl.Key{Use: impl.KyEarly, Secret: -7, Hello: 2}, No: 3, Text: "hay"}},
		{"a number below 0", impl.Box{Key: k, No: -1, Text: "hay"}},
		{"a number past the largest", impl.Box{Key: k, No: 1001, Text: "hay"}},
		{"a text past the longest", impl.Box{Key: k, No: 3, Text: strings.Repeat("x", 41)}},
		{"a spoilt one", impl.Box{Key: k, No: 3, Text: "hay", Spoilt: true}},
	} {
		closed(t, c.name, c.box, c.box.Key, c.box.No)
	}
}

func TestOpenedOfEachBox(t *testing.T) {
	eachBox(func(b impl.Box) {
		want := ""
		right := boxIsRight(b.Key, b.No, b.Text) && !b.Spoilt
		if right {
			want = b.Text
		}
		if s, open := impl.Opened(b, b.Key, b.No); s != want || open != right {
			t.Fatalf("Opened(%v) by its own = %q, %v", b, s, open)
		}
	})
}

// TestBoxIsOpenedByItsKeyAndNoAlone tries every key and number at a box of every right key and number.
func TestBoxIsOpenedByItsKeyAndNoAlone(t *testing.T) {
	opened, locked := 0, 0
	for _, own := range boxKeys {
		for _, ownNo := range boxNos {
			b, is := impl.Locked(own, ownNo, "hay")
			if !is {
				continue
			}
			locked++
			for _, k := range boxKeys {
				for _, no := range boxNos {
					if k != own || no != ownNo {
						closed(t, "not its own", b, k, no)
						continue
					}
					if s, open := impl.Opened(b, k, no); !open || s != "hay" {
						t.Fatalf("Opened(%v, %v, %d) = %q, %v", b, k, no, s, open)
					}
					opened++
				}
			}
		}
	}
	if locked == 0 || opened != locked {
		t.Fatalf("%d of %d opened", opened, locked)
	}
}

// TestBoxOfEachNo: each of the 1001 numbers opens its own box and neither neighbour's.
func TestBoxOfEachNo(t *testing.T) {
	k := impl.ForthKey(0, 2, 3)
	for no := int64(0); no <= impl.MaxNo; no++ {
		b := mustLock(t, k, no, "hay")
		if s, open := impl.Opened(b, k, no); !open || s != "hay" {
			t.Fatalf("number %d: %q, %v", no, s, open)
		}
		closed(t, "the number ahead", b, k, no-1)
		closed(t, "the next number", b, k, no+1)
	}
}

func TestSpoil(t *testing.T) {
	k := impl.EarlyKey(7, 2)
	b := mustLock(t, k, 3, "hay")
	spoilt := impl.Spoil(b)
	if spoilt != (impl.Box{Key: k, No: 3, Text: "hay", Spoilt: true}) {
		t.Fatal(spoilt)
	}
	if !impl.BoxOk(spoilt) {
		t.Fatal("a spoilt box is a right one")
	}
	closed(t, "spoilt", spoilt, k, 3)
	closed(t, "spoilt, another number", spoilt, k, 4)
	closed(t, "spoilt, no key", spoilt, noKey, 0)
	if s, open := impl.Opened(b, k, 3); b.Spoilt || !open || s != "hay" {
		t.Fatal("the argument is spoilt too")
	}
}

// TestSpoilOfEachBox: nothing but Spoilt changes, of a wrong box either, and what is spoilt stays so.
func TestSpoilOfEachBox(t *testing.T) {
	eachBox(func(b impl.Box) {
		want := b
		want.Spoilt = true
		spoilt := impl.Spoil(b)
		if spoilt != want {
			t.Fatalf("Spoil(%v) = %v", b, spoilt)
		}
		if again := impl.Spoil(spoilt); again != want {
			t.Fatalf("Spoil(%v) = %v", spoilt, again)
		}
		if impl.BoxOk(spoilt) != impl.BoxOk(b) {
			t.Fatalf("BoxOk(%v) is not as of the box ahead of it", spoilt)
		}
		closed(t, "spoilt", spoilt, b.Key, b.No)
	})
}
