package tests

import (
	"fmt"
	"math"
	"regexp"
	"strconv"
	"strings"
	"testing"

	"loop.example/g00558/impl"
)

var noToken = impl.Token{}

// Each list has both ends of its range, what is one past them, and what a narrower integer would take for one within.
var (
	tokenSecrets = []int64{math.MinInt64, -5, -1, 0, 1, 5, 99999, 100000, 100001, 1<<32 + 5, math.MaxInt64}
	tokenTimes   = []int64{math.MinInt64, -70, -1, 0, 1, 70, 99999, 100000, 100001, 1<<32 + 70, math.MaxInt64}
	tokenLives   = []int64{math.MinInt64, -100, -1, 0, 1, 100, 999, 1000, 1001, 1<<16 + 100, 1<<32 + 100, math.MaxInt64}
	tokenMosts   = []int64{math.MinInt64, -20, -1, 0, 1, 20, 99, 100, 101, 1<<8 + 20, 1<<32 + 20, math.MaxInt64}
	tokenInns    = []int64{math.MinInt64, -1, 0, 1, 2, 5, 99999, 100000, 100001, 1<<32 + 1, math.MaxInt64}
)

// numbersAreRight says what chapter 6 says of a token's numbers.
func numbersAreRight(secret, born, life, most int64) bool {
	within := func(n, least, last int64) bool { return n >= least && n <= last }
	return within(secret, 1, 100000) && within(born, 0, 100000) && within(life, 1, 1000) && within(most, 0, 100)
}

func writtenIn(secret, born, life, most int64) string {
	return fmt.Sprintf("%d-%d-%d-%d", secret, born, life, most)
}

// tokenIsRight says what chapter 6 says, a seal's words among it; its key and number are of no matter.
func tokenIsRight(k impl.Token) bool {
	return numbersAreRight(k.Secret, k.Born, k.Life, k.Most) &&
		boxIsRight(k.Seal.Key, k.Seal.No, k.Seal.Text) &&
		k.Seal.Text == writtenIn(k.Secret, k.Born, k.Life, k.Most)
}

func innIsRight(inn int64) bool {
	return inn >= 0 && inn <= 100000
}

func wantToken(inn, secret, born, life, most int64) (impl.Token, bool) {
	if !innIsRight(inn) || !numbersAreRight(secret, born, life, most) {
		return noToken, false
	}
	seal := impl.Box{Key: impl.Key{Use: impl.KyToken, Secret: inn}, Text: writtenIn(secret, born, life, most)}
	return impl.Token{Secret: secret, Born: born, Life: life, Most: most, Seal: seal}, true
}

var sealForm = regexp.MustCompile(`\A(0|[1-9][0-9]{0,8})-(0|[1-9][0-9]{0,8})-(0|[1-9][0-9]{0,8})-(0|[1-9][0-9]{0,8})\z`)

// wantUnsealed reads by the form of numbers that the document's conventions tell.
func wantUnsealed(inn int64, b impl.Box) (impl.Token, bool) {
	opens := innIsRight(inn) && b.Key == impl.Key{Use: impl.KyToken, Secret: inn} && b.No == 0 && !b.Spoilt && len(b.Text) <= 40
	found := sealForm.FindStringSubmatch(b.Text)
	if !opens || found == nil {
		return noToken, false
	}
	var numbers [4]int64
	for i := range numbers {
		n, err := strconv.Atoi(found[i+1])
		if err != nil {
			panic(err)
		}
		numbers[i] = int64(n)
	}
	if !numbersAreRight(numbers[0], numbers[1], numbers[2], numbers[3]) {
		return noToken, false
	}
	return impl.Token{Secret: numbers[0], Born: numbers[1], Life: numbers[2], Most: numbers[3], Seal: b}, true
}

func checkUnsealed(t *testing.T, name string, inn int64, b impl.Box) {
	t.Helper()
	want, right := wantUnsealed(inn, b)
	if got, is := impl.Unsealed(inn, b); got != want || is != right {
		t.Fatalf("%s: Unsealed(%d, %v) = %v, %v", name, inn, b, got, is)
	}
}

func mustToken(t *testing.T, inn, secret, born, life, most int64) impl.Token {
	t.Helper()
	k, is := impl.NewToken(inn, secret, born, life, most)
	if !is {
		t.Fatalf("NewToken(%d, %d, %d, %d, %d) is false", inn, secret, born, life, most)
	}
	return k
}

func eachNumbers(f func(secret, born, life, most int64)) {
	for _, secret := range tokenSecrets {
		for _, born := range tokenTimes {
			for _, life := range tokenLives {
				for _, most := range tokenMosts {
					f(secret, born, life, most)
				}
			}
		}
	}
}

func TestTokenLimits(t *testing.T) {
	if impl.MaxTime != 100000 || impl.MaxLife != 1000 {
		t.Fatalf("MaxTime = %d, MaxLife = %d", impl.MaxTime, impl.MaxLife)
	}
}

func TestTokenOk(t *testing.T) {
	sealed := func(secret, born, life, most int64) impl.Token {
		seal := impl.Box{Key: impl.TokenKey(1), Text: writtenIn(secret, born, life, most)}
		return impl.Token{Secret: secret, Born: born, Life: life, Most: most, Seal: seal}
	}
	with := func(seal impl.Box) impl.Token {
		return impl.Token{Secret: 5, Born: 70, Life: 100, Most: 20, Seal: seal}
	}
	text := func(s string) impl.Token { return with(impl.Box{Key: impl.TokenKey(1), Text: s}) }
	const right = "5-70-100-20"
	for _, c := range []struct {
		name  string
		token impl.Token
		want  bool
	}{
		{"the zero Token", noToken, false},
		{"an ordinary one", sealed(5, 70, 100, 20), true},
		{"all at their least", sealed(1, 0, 1, 0), true},
		{"all met exactly", sealed(100000, 100000, 1000, 100), true},
		{"a secret of 0", sealed(0, 70, 100, 20), false},
		{"a secret below 0", sealed(-1, 70, 100, 20), false},
		{"a secret past the largest", sealed(100001, 70, 100, 20), false},
		{"born below 0", sealed(5, -1, 100, 20), false},
		{"born past the last time", sealed(5, 100001, 100, 20), false},
		{"no life", sealed(5, 70, 0, 20), false},
		{"a life below 0", sealed(5, 70, -1, 20), false},
		{"a life past the longest", sealed(5, 70, 1001, 20), false},
		{"most below 0", sealed(5, 70, 100, -1), false},
		{"most past the largest", sealed(5, 70, 100, 101), false},
		{"no seal", with(noBox), false},
		{"a seal without a key", with(impl.Box{Text: right}), false},
		{"a seal of a wrong key", with(impl.Box{Key: impl.Key{Use: impl.KyToken, Secret: -1}, Text: right}), false},
		{"a seal with a number below 0", with(impl.Box{Key: impl.TokenKey(1), No: -1, Text: right}), false},
		{"a seal with a number past the largest", with(impl.Box{Key: impl.TokenKey(1), No: 1001, Text: right}), false},
		{"a spoilt seal", with(impl.Box{Key: impl.TokenKey(1), Text: right, Spoilt: true}), true},
		{"a seal of none that is shared", with(impl.Box{Key: impl.TokenKey(0), Text: right}), true},
		{"a seal that is another box", with(impl.Box{Key: impl.EarlyKey(7, 2), No: 3, Text: right}), true},
		{"an empty seal", text(""), false},
		{"another secret in the seal", text("6-70-100-20"), false},
		{"another birth in the seal", text("5-71-100-20"), false},
		{"another life in the seal", text("5-70-101-20"), false},
		{"another most in the seal", text("5-70-100-21"), false},
		{"one number too few in the seal", text("5-70-100"), false},
		{"one number too many in the seal", text("5-70-100-20-0"), false},
		{"a nought ahead in the seal", text("05-70-100-20"), false},
		{"something behind in the seal", text("5-70-100-20 "), false},
		{"something else between in the seal", text("5 70 100 20"), false},
	} {
		if got := impl.TokenOk(c.token); got != c.want {
			t.Errorf("%s: TokenOk(%v) = %v", c.name, c.token, got)
		}
	}
}

func TestTokenOkOfEachToken(t *testing.T) {
	right := 0
	eachNumbers(func(secret, born, life, most int64) {
		own := writtenIn(secret, born, life, most)
		for _, seal := range []impl.Box{
			{Key: impl.TokenKey(1), Text: own},
			{Key: impl.TokenKey(1), Text: own, Spoilt: true},
			{Key: impl.TokenKey(100000), No: 1000, Text: own},
			{Key: impl.TokenKey(1), No: 1001, Text: own},
			{Key: impl.TokenKey(1), Text: "5-70-100-20"},
			{Text: own},
			noBox,
		} {
			k := impl.Token{Secret: secret, Born: born, Life: life, Most: most, Seal: seal}
			want := tokenIsRight(k)
			if got := impl.TokenOk(k); got != want {
				t.Fatalf("TokenOk(%v) = %v", k, got)
			}
			if want {
				right++
			}
		}
	})
	// Of 4, 5, 4 and 5 right numbers three right seals each, and one time the ordinary one.
	if right != 4*5*4*5*3+1 {
		t.Fatalf("%d are right", right)
	}
}

// TestTokenOkOfEachSeal: whatever is no right box is no seal.
func TestTokenOkOfEachSeal(t *testing.T) {
	eachBox(func(b impl.Box) {
		for _, text := range []string{b.Text, "5-70-100-20"} {
			b.Text = text
			k := impl.Token{Secret: 5, Born: 70, Life: 100, Most: 20, Seal: b}
			if got := impl.TokenOk(k); got != tokenIsRight(k) {
				t.Fatalf("TokenOk(%v) = %v", k, got)
			}
		}
	})
}

func TestNewToken(t *testing.T) {
	for _, c := range []struct {
		name                          string
		inn, secret, born, life, most int64
		text                          string
	}{
		{"an ordinary one", 1, 5, 70, 100, 20, "5-70-100-20"},
		{"all at their least", 1, 1, 0, 1, 0, "1-0-1-0"},
		{"all met exactly", 100000, 100000, 100000, 1000, 100, "100000-100000-1000-100"},
		{"an inn of which none is shared", 0, 5, 70, 100, 20, "5-70-100-20"},
		{"an inn's own secret", 5, 5, 70, 100, 20, "5-70-100-20"},
		{"an inn below 0", -1, 5, 70, 100, 20, ""},
		{"an inn past the largest", 100001, 5, 70, 100, 20, ""},
		{"a secret of 0", 1, 0, 70, 100, 20, ""},
		{"a secret below 0", 1, -1, 70, 100, 20, ""},
		{"a secret past the largest", 1, 100001, 70, 100, 20, ""},
		{"born below 0", 1, 5, -1, 100, 20, ""},
		{"born past the last time", 1, 5, 100001, 100, 20, ""},
		{"no life", 1, 5, 70, 0, 20, ""},
		{"a life below 0", 1, 5, 70, -1, 20, ""},
		{"a life past the longest", 1, 5, 70, 1001, 20, ""},
		{"most below 0", 1, 5, 70, 100, -1, ""},
		{"most past the largest", 1, 5, 70, 100, 101, ""},
		{"nothing right", -1, 0, -1, 0, -1, ""},
	} {
		want := noToken
		if c.text != "" {
			seal := impl.Box{Key: impl.Key{Use: impl.KyToken, Secret: c.inn}, Text: c.text}
			want = impl.Token{Secret: c.secret, Born: c.born, Life: c.life, Most: c.most, Seal: seal}
		}
		if got, is := impl.NewToken(c.inn, c.secret, c.born, c.life, c.most); got != want || is != (c.text != "") {
			t.Errorf("%s: %v, %v", c.name, got, is)
		}
	}
}

// TestWhatIsSealedIsUnsealed makes tokens of all numbers, right and wrong, by each inn, and has them unsealed by it.
func TestWhatIsSealedIsUnsealed(t *testing.T) {
	made := 0
	for _, inn := range tokenInns {
		eachNumbers(func(secret, born, life, most int64) {
			want, right := wantToken(inn, secret, born, life, most)
			k, is := impl.NewToken(inn, secret, born, life, most)
			if k != want || is != right || impl.TokenOk(k) != right {
				t.Fatalf("NewToken(%d, %d, %d, %d, %d) = %v, %v", inn, secret, born, life, most, k, is)
			}
			if got, is := impl.Unsealed(inn, k.Seal); got != k || is != right {
				t.Fatalf("Unsealed(%d, %v) = %v, %v", inn, k.Seal, got, is)
			}
			if right {
				made++
			}
		})
	}
	if made != 6*4*5*4*5 {
		t.Fatalf("%d are made", made)
	}
}

// TestUnsealedByThatInnAlone: an inn knows its own tokens, not those of another one, nor any other box.
func TestUnsealedByThatInnAlone(t *testing.T) {
	for _, own := range tokenInns {
		if !innIsRight(own) {
			continue
		}
		k := mustToken(t, own, 5, 70, 100, 20)
		for _, inn := range tokenInns {
			got, is := impl.Unsealed(inn, k.Seal)
			if inn == own && (!is || got != k) || inn != own && (is || got != noToken) {
				t.Fatalf("Unsealed(%d) of inn %d's = %v, %v", inn, own, got, is)
			}
			if got, is := impl.Unsealed(inn, impl.Spoil(k.Seal)); is || got != noToken {
				t.Fatalf("Unsealed(%d) of inn %d's, spoilt = %v, %v", inn, own, got, is)
			}
		}
	}
}

// TestUnsealedOfEachBox: what is written is right, but not each box of it is a seal.
func TestUnsealedOfEachBox(t *testing.T) {
	for _, inn := range tokenInns {
		for _, k := range boxKeys {
			for _, no := range boxNos {
				b := impl.Box{Key: k, No: no, Text: "5-70-100-20"}
				checkUnsealed(t, "each", inn, b)
				checkUnsealed(t, "spoilt", inn, impl.Spoil(b))
			}
		}
	}
	eachBox(func(b impl.Box) { checkUnsealed(t, "any words", 7, b) })
}

func TestUnsealedText(t *testing.T) {
	for _, c := range []struct {
		text string
		want impl.Token
	}{
		{"5-70-100-20", impl.Token{Secret: 5, Born: 70, Life: 100, Most: 20}},
		{"1-0-1-0", impl.Token{Secret: 1, Life: 1}},
		{"100000-100000-1000-100", impl.Token{Secret: 100000, Born: 100000, Life: 1000, Most: 100}},
		{"0-70-100-20", noToken},
		{"100001-70-100-20", noToken},
		{"5-100001-100-20", noToken},
		{"5-70-0-20", noToken},
		{"5-70-1001-20", noToken},
		{"5-70-100-101", noToken},
		{"-5-70-100-20", noToken},
		{"5--70-100-20", noToken},
		{"5-70--100-20", noToken},
		{"5-70-100--20", noToken},
		{"5-70-100--0", noToken},
		{"5--0-100-20", noToken},
		{"05-70-100-20", noToken},
		{"5-070-100-20", noToken},
		{"5-70-0100-20", noToken},
		{"5-70-100-020", noToken},
		{"5-00-100-20", noToken},
		{"5-70-100-00", noToken},
		{"+5-70-100-20", noToken},
		{"5-+70-100-20", noToken},
		{"5-70-100-+20", noToken},
		{"", noToken},
		{"-", noToken},
		{"---", noToken},
		{"5", noToken},
		{"5-70-100", noToken},
		{"5-70-100-", noToken},
		{"-70-100-20", noToken},
		{"5--100-20", noToken},
		{"5-70-100-20-", noToken},
		{"5-70-100-20-1", noToken},
		{"-5-70-100-20-", noToken},
		{" 5-70-100-20", noToken},
		{"5-70-100-20\n", noToken},
		{"5-70-100-20\x00", noToken},
		{"5 - 70 - 100 - 20", noToken},
		{"5.70.100.20", noToken},
		{"5-70-1_00-20", noToken},
		{"5-70-1e2-20", noToken},
		{"0x5-70-100-20", noToken},
		{"5-70-100-a", noToken},
		{"hay", noToken},
		{"\u0665-70-100-20", noToken},
		{"5\u201370\u2013100\u201320", noToken},
		{"4294967301-70-100-20", noToken},
		{"9223372036854775807-0-1-0", noToken},
		{"18446744073709551621-70-100-20", noToken},
		{"00000000000000000000000000005-70-100-20", noToken},
		{"99999999999999999999999999999-70-100-20", noToken},
		{strings.Repeat("0", 30) + "5-70-100-20", noToken},
	} {
		b := impl.Box{Key: impl.TokenKey(1), Text: c.text}
		want := c.want
		if want != noToken {
			want.Seal = b
		}
		if got, is := impl.Unsealed(1, b); got != want || is != (want != noToken) {
			t.Errorf("Unsealed of %q = %v, %v", c.text, got, is)
		}
	}
}

// TestUnsealedOfEachShortText goes through all texts of up to 9 of these bytes.
func TestUnsealedOfEachShortText(t *testing.T) {
	texts := []string{""}
	for begin := 0; begin < len(texts); begin++ {
		b := impl.Box{Key: impl.TokenKey(1), Text: texts[begin]}
		checkUnsealed(t, "short", 1, b)
		if len(texts[begin]) == 9 {
			continue
		}
		for _, c := range "01-" {
			texts = append(texts, texts[begin]+string(c))
		}
	}
}

// TestUnsealedOfAChangedText has one byte of a right text changed, left out, or put in, at each place.
func TestUnsealedOfAChangedText(t *testing.T) {
	for _, right := range []string{"5-70-100-20", "100000-100000-1000-100", "1-0-1-0"} {
		for i := range len(right) + 1 {
			behind := right[i:]
			changed := []string{}
			for c := range 256 {
				one := string([]byte{byte(c)})
				changed = append(changed, right[:i]+one+behind)
				if behind != "" {
					changed = append(changed, right[:i]+one+behind[1:], right[:i]+behind[1:])
				}
			}
			for _, text := range changed {
				checkUnsealed(t, "changed", 1, impl.Box{Key: impl.TokenKey(1), Text: text})
			}
		}
	}
}

func TestFresh(t *testing.T) {
	k := mustToken(t, 1, 5, 70, 100, 20)
	short := mustToken(t, 1, 5, 0, 1, 0)
	last := mustToken(t, 1, 5, 100000, 1000, 100)
	for _, c := range []struct {
		name  string
		token impl.Token
		now   int64
		want  bool
	}{
		{"ahead of its birth", k, 69, false},
		{"as it is born", k, 70, true},
		{"behind its birth", k, 71, true},
		{"ahead of its end", k, 169, true},
		{"as its life ends", k, 170, true},
		{"behind its end", k, 171, false},
		{"0", k, 0, false},
		{"below 0", k, -1, false},
		{"as far below 0 as its birth", k, -70, false},
		{"the least int64", k, math.MinInt64, false},
		{"the largest int64", k, math.MaxInt64, false},
		{"a time in its low bytes alone", k, 1<<32 + 70, false},
		{"short, ahead of its birth", short, -1, false},
		{"short, as it is born", short, 0, true},
		{"short, as its life ends", short, 1, true},
		{"short, behind its end", short, 2, false},
		{"last, ahead of its birth", last, 99999, false},
		{"last, as it is born", last, 100000, true},
		{"last, past all times", last, 100001, true},
		{"last, as its life ends", last, 101000, true},
		{"last, behind its end", last, 101001, false},
		{"the zero Token", noToken, 0, false},
	} {
		if got := impl.Fresh(c.token, c.now); got != c.want {
			t.Errorf("%s: Fresh(%v, %d) = %v", c.name, c.token, c.now, got)
		}
	}
}

func TestAgeOf(t *testing.T) {
	k := mustToken(t, 1, 5, 70, 100, 20)
	first := mustToken(t, 1, 5, 0, 1, 0)
	last := mustToken(t, 1, 5, 100000, 1000, 100)
	for _, c := range []struct {
		name  string
		token impl.Token
		now   int64
		want  int64
	}{
		{"far ahead of its birth", k, 0, -1},
		{"two ahead of its birth", k, 68, -1},
		{"one ahead of its birth", k, 69, -1},
		{"as it is born", k, 70, 0},
		{"one behind its birth", k, 71, 1},
		{"ordinary", k, 90, 20},
		{"as its life ends", k, 170, 100},
		{"behind its end", k, 171, 101},
		{"the last time", k, 100000, 99930},
		{"past the last time", k, 100001, -1},
		{"below 0", k, -1, -1},
		{"the least int64", k, math.MinInt64, -1},
		{"the least int64 and more than its birth", k, math.MinInt64 + 71, -1},
		{"the largest int64", k, math.MaxInt64, -1},
		{"first, as it is born", first, 0, 0},
		{"first, below 0", first, -1, -1},
		{"first, the last time", first, 100000, 100000},
		{"last, one ahead of its birth", last, 99999, -1},
		{"last, as it is born", last, 100000, 0},
		{"last, past the last time", last, 100001, -1},
		{"the zero Token", noToken, 0, -1},
		{"the zero Token, later", noToken, 90, -1},
	} {
		if got := impl.AgeOf(c.token, c.now); got != c.want {
			t.Errorf("%s: AgeOf(%v, %d) = %d", c.name, c.token, c.now, got)
		}
	}
}

// TestFreshAndAgeOfEach: of each token, right or wrong, at each time and past all.
func TestFreshAndAgeOfEach(t *testing.T) {
	nows := append([]int64{69, 71, 169, 170, 171, 101000, 101001}, tokenTimes...)
	eachNumbers(func(secret, born, life, most int64) {
		own := impl.Box{Key: impl.TokenKey(1), Text: writtenIn(secret, born, life, most)}
		for _, seal := range []impl.Box{own, impl.Spoil(own), {Key: own.Key, Text: "5-70-100-2"}, {Text: own.Text}} {
			k := impl.Token{Secret: secret, Born: born, Life: life, Most: most, Seal: seal}
			right := tokenIsRight(k)
			for _, now := range nows {
				fresh := right && now >= born && now <= born+life
				if got := impl.Fresh(k, now); got != fresh {
					t.Fatalf("Fresh(%v, %d) = %v", k, now, got)
				}
				age := int64(-1)
				if right && now >= born && now <= 100000 {
					age = now - born
				}
				if got := impl.AgeOf(k, now); got != age {
					t.Fatalf("AgeOf(%v, %d) = %d", k, now, got)
				}
			}
		}
	})
}

// TestTokenAnswersDoNotHangOnCallsAhead: what one call gave up is not seen in the next one.
func TestTokenAnswersDoNotHangOnCallsAhead(t *testing.T) {
	k := mustToken(t, 1, 5, 70, 100, 20)
	for range 3 {
		if got, is := impl.NewToken(1, 5, 70, 0, 20); is || got != noToken {
			t.Fatalf("no life: %v, %v", got, is)
		}
		if got, is := impl.Unsealed(2, k.Seal); is || got != noToken {
			t.Fatalf("another inn: %v, %v", got, is)
		}
		if got, is := impl.Unsealed(1, k.Seal); !is || got != k {
			t.Fatalf("its own inn: %v, %v", got, is)
		}
		if again := mustToken(t, 1, 5, 70, 100, 20); again != k {
			t.Fatalf("made once more: %v", again)
		}
	}
}
