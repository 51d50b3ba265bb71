package tests

import (
	"maps"
	"math"
	"slices"
	"testing"

	"loop.example/g00558/impl"
)

// purseIsRight says what chapter 7 says of a purse.
func purseIsRight(p []impl.Token) bool {
	for i, k := range p {
		if !tokenIsRight(k) || hasSecret(p[:i], k.Secret) {
			return false
		}
	}
	return len(p) <= 6
}

func hasSecret(p []impl.Token, secret int64) bool {
	for _, k := range p {
		if k.Secret == secret {
			return true
		}
	}
	return false
}

func isFresh(k impl.Token, now int64) bool {
	return tokenIsRight(k) && now >= k.Born && now <= k.Born+k.Life
}

func wantKept(p []impl.Token, k impl.Token) ([]impl.Token, bool) {
	if !purseIsRight(p) {
		return nil, false
	}
	if !tokenIsRight(k) || hasSecret(p, k.Secret) {
		return p, false
	}
	whole := append(slices.Clone(p), k)
	return whole[max(0, len(whole)-6):], true
}

func wantSpent(p []impl.Token, now int64) ([]impl.Token, impl.Token, bool) {
	if !purseIsRight(p) {
		return nil, noToken, false
	}
	for i := len(p) - 1; i >= 0; i-- {
		if isFresh(p[i], now) {
			return slices.Concat(p[:i], p[i+1:]), p[i], true
		}
	}
	return p, noToken, false
}

func wantSwept(p []impl.Token, now int64) []impl.Token {
	if !purseIsRight(p) {
		return nil
	}
	return slices.DeleteFunc(slices.Clone(p), func(k impl.Token) bool { return !isFresh(k, now) })
}

func checkKept(t *testing.T, name string, p []impl.Token, k impl.Token) {
	t.Helper()
	want, right := wantKept(p, k)
	if got, is := impl.Kept(p, k); !slices.Equal(got, want) || is != right {
		t.Fatalf("%s: Kept(%v, %v) = %v, %v", name, p, k, got, is)
	}
}

func checkSpent(t *testing.T, name string, p []impl.Token, now int64) {
	t.Helper()
	want, one, right := wantSpent(p, now)
	if got, k, is := impl.Spent(p, now); !slices.Equal(got, want) || k != one || is != right {
		t.Fatalf("%s: Spent(%v, %d) = %v, %v, %v", name, p, now, got, k, is)
	}
}

func checkSwept(t *testing.T, name string, p []impl.Token, now int64) {
	t.Helper()
	if got := impl.Swept(p, now); !slices.Equal(got, wantSwept(p, now)) {
		t.Fatalf("%s: Swept(%v, %d) = %v", name, p, now, got)
	}
}

// tokensFrom are so many tokens of the secrets from first on, all born at 0, each living 10 longer than the one ahead of it.
func tokensFrom(t *testing.T, first int64, count int) []impl.Token {
	t.Helper()
	p := make([]impl.Token, count)
	for i := range p {
		p[i] = mustToken(t, 1, first+int64(i), 0, 10*int64(i+1), 20)
	}
	return p
}

// wrongTokens are each wrong by one thing alone.
func wrongTokens(t *testing.T) []impl.Token {
	t.Helper()
	k := mustToken(t, 1, 50, 0, 100, 20)
	changed, bare, open := k, k, k
	changed.Life = 101
	bare.Seal = noBox
	open.Seal.Key = noKey
	sealed := func(secret, born, life, most int64) impl.Token {
		seal := impl.Box{Key: impl.TokenKey(1), Text: writtenIn(secret, born, life, most)}
		return impl.Token{Secret: secret, Born: born, Life: life, Most: most, Seal: seal}
	}
	return []impl.Token{
		noToken, changed, bare, open,
		sealed(0, 0, 100, 20), sealed(-1, 0, 100, 20), sealed(100001, 0, 100, 20),
		sealed(50, -1, 100, 20), sealed(50, 100001, 100, 20),
		sealed(50, 0, 0, 20), sealed(50, 0, 1001, 20),
		sealed(50, 0, 100, -1), sealed(50, 0, 100, 101),
		sealed(math.MinInt64, math.MinInt64, math.MinInt64, math.MinInt64),
		sealed(math.MaxInt64, math.MaxInt64, math.MaxInt64, math.MaxInt64),
	}
}

// purseNows has what is ahead of, within and behind the lives of the tokens here, and what is no time at all.
var purseNows = []int64{math.MinInt64, -1, 0, 1, 5, 10, 11, 20, 21, 60, 61, 70, 71, 99999, 100000, 100001, 101000, 101001, 1<<32 + 5, math.MaxInt64}

// eachShortPurse goes through all lists of up to 4 of right tokens, two of them of one secret, and of wrong ones.
func eachShortPurse(t *testing.T, f func([]impl.Token)) {
	t.Helper()
	pool := append(tokensFrom(t, 5, 3),
		mustToken(t, 2, 5, 0, 1000, 0),
		mustToken(t, 0, 100000, 100000, 1000, 100),
		mustToken(t, 1, 1, 21, 1, 0),
		noToken,
		wrongTokens(t)[1],
	)
	purses := [][]impl.Token{nil}
	for begin := 0; begin < len(purses); begin++ {
		p := purses[begin]
		f(p)
		if len(p) == 4 {
			continue
		}
		for _, k := range pool {
			purses = append(purses, append(slices.Clone(p), k))
		}
	}
}

// eachLongPurse has each count around the limit, and one wrong or doubled token at each place of it.
func eachLongPurse(t *testing.T, f func([]impl.Token)) {
	t.Helper()
	for count := 5; count <= 8; count++ {
		p := tokensFrom(t, 5, count)
		f(p)
		for i := range p {
			for _, k := range append(wrongTokens(t), p[0], p[count-1], mustToken(t, 2, 5, 0, 1000, 0)) {
				changed := slices.Clone(p)
				changed[i] = k
				f(changed)
			}
		}
	}
	f(tokensFrom(t, 5, 90))
}

func eachPurse(t *testing.T, f func([]impl.Token)) {
	t.Helper()
	eachShortPurse(t, f)
	eachLongPurse(t, f)
}

func TestPurseLimit(t *testing.T) {
	if impl.MaxTokens != 6 {
		t.Fatalf("MaxTokens = %d", impl.MaxTokens)
	}
}

func TestPurseOk(t *testing.T) {
	p := tokensFrom(t, 5, 7)
	spoilt := p[1]
	spoilt.Seal = impl.Spoil(spoilt.Seal)
	for _, c := range []struct {
		name  string
		purse []impl.Token
		want  bool
	}{
		{"nil", nil, true},
		{"empty", []impl.Token{}, true},
		{"one", p[:1], true},
		{"one less than the most", p[:5], true},
		{"the most", p[:6], true},
		{"one more than the most", p[:7], false},
		{"falling secrets", []impl.Token{p[2], p[1], p[0]}, true},
		{"alike but for the secret", []impl.Token{mustToken(t, 1, 5, 0, 9, 0), mustToken(t, 1, 6, 0, 9, 0)}, true},
		{"of unlike inns", []impl.Token{mustToken(t, 1, 5, 0, 9, 0), mustToken(t, 2, 6, 0, 9, 0)}, true},
		{"a spoilt seal, which is a right one", []impl.Token{p[0], spoilt}, true},
		{"twice the same", []impl.Token{p[0], p[0]}, false},
		{"the first and the last the same", []impl.Token{p[0], p[1], p[2], p[0]}, false},
		{"two of one secret, unlike else", []impl.Token{p[0], mustToken(t, 2, 5, 7, 1000, 0)}, false},
		{"the zero Token", []impl.Token{noToken}, false},
		{"the zero Token behind right ones", []impl.Token{p[0], p[1], noToken}, false},
		{"the zero Token ahead of right ones", []impl.Token{noToken, p[0], p[1]}, false},
	} {
		if got := impl.PurseOk(c.purse); got != c.want {
			t.Errorf("%s: PurseOk(%v) = %v", c.name, c.purse, got)
		}
	}
}

func TestPurseOkOfEach(t *testing.T) {
	right := 0
	eachPurse(t, func(p []impl.Token) {
		want := purseIsRight(p)
		if got := impl.PurseOk(p); got != want {
			t.Fatalf("PurseOk(%v) = %v", p, got)
		}
		if want {
			right++
		}
	})
	if right < 300 {
		t.Fatalf("only %d are right", right)
	}
}

func TestPurseOkOfEachWrongToken(t *testing.T) {
	for _, k := range wrongTokens(t) {
		if impl.PurseOk([]impl.Token{k}) {
			t.Errorf("PurseOk of %v", k)
		}
	}
}

func TestKept(t *testing.T) {
	p := tokensFrom(t, 5, 8)
	other := mustToken(t, 2, 5, 7, 1000, 0)
	tooMany := p[:7]
	for _, c := range []struct {
		name  string
		purse []impl.Token
		token impl.Token
		want  []impl.Token
		is    bool
	}{
		{"into nil", nil, p[0], p[:1], true},
		{"into an empty one", []impl.Token{}, p[0], p[:1], true},
		{"behind another one", p[:1], p[1], p[:2], true},
		{"behind one of a larger secret", p[1:2], p[0], []impl.Token{p[1], p[0]}, true},
		{"into the last room", p[:5], p[5], p[:6], true},
		{"into a full one", p[:6], p[6], p[1:7], true},
		{"into a full one, once more", p[1:7], p[7], p[2:8], true},
		{"the same", p[:2], p[0], p[:2], false},
		{"the same as the last one", p[:2], p[1], p[:2], false},
		{"one of its secret, unlike else", p[:2], other, p[:2], false},
		{"into a full one, of the first one's secret", p[:6], other, p[:6], false},
		{"into a full one, of the last one's secret", p[:6], p[5], p[:6], false},
		{"the zero Token", p[:2], noToken, p[:2], false},
		{"the zero Token into nil", nil, noToken, nil, false},
		{"the zero Token into a full one", p[:6], noToken, p[:6], false},
		{"into one that has too many", tooMany, p[7], nil, false},
		{"into one that has too many, the same", tooMany, p[0], nil, false},
		{"into one that has one twice", []impl.Token{p[0], p[0]}, p[1], nil, false},
		{"into one that has a wrong one", []impl.Token{p[0], noToken}, p[1], nil, false},
		{"the zero Token into one that has a wrong one", []impl.Token{noToken}, noToken, nil, false},
	} {
		if got, is := impl.Kept(c.purse, c.token); !slices.Equal(got, c.want) || is != c.is {
			t.Errorf("%s: %v, %v", c.name, got, is)
		}
	}
}

func TestKeptOfEach(t *testing.T) {
	tokens := append(tokensFrom(t, 5, 8), wrongTokens(t)...)
	tokens = append(tokens, mustToken(t, 2, 5, 7, 1000, 0), mustToken(t, 0, 100000, 100000, 1000, 100), mustToken(t, 1, 1, 0, 1, 0))
	eachPurse(t, func(p []impl.Token) {
		for _, k := range tokens {
			checkKept(t, "each", p, k)
		}
	})
}

// TestKeptOneAfterTheOther: however many come, the last ones stay, in their order.
func TestKeptOneAfterTheOther(t *testing.T) {
	all := tokensFrom(t, 1, 20)
	var p []impl.Token
	for i, k := range all {
		next, is := impl.Kept(p, k)
		if want := all[max(0, i-5) : i+1]; !is || !slices.Equal(next, want) || !impl.PurseOk(next) {
			t.Fatalf("behind %d: %v, %v", i+1, next, is)
		}
		p = next
	}
	// What had to go is no longer there, so it may come once more.
	if next, is := impl.Kept(p, all[0]); !is || next[5] != all[0] || next[0] != all[15] {
		t.Fatalf("the first one once more: %v, %v", next, is)
	}
}

func TestSpent(t *testing.T) {
	p := tokensFrom(t, 5, 7)
	late := mustToken(t, 1, 99, 70, 100, 20)
	last := mustToken(t, 1, 98, 100000, 1000, 100)
	for _, c := range []struct {
		name  string
		purse []impl.Token
		now   int64
		want  []impl.Token
		token impl.Token
		is    bool
	}{
		{"all are fresh", p[:3], 5, p[:2], p[2], true},
		{"the last one alone is fresh", p[:3], 30, p[:2], p[2], true},
		{"behind the last one's end", p[:3], 31, p[:3], noToken, false},
		{"the first one alone is fresh", []impl.Token{p[2], p[1], p[0]}, 30, []impl.Token{p[1], p[0]}, p[2], true},
		{"one between is the last fresh one", []impl.Token{p[1], p[2], p[0]}, 15, []impl.Token{p[1], p[0]}, p[2], true},
		{"the last one is not born yet", []impl.Token{p[0], p[1], late}, 5, []impl.Token{p[0], late}, p[1], true},
		{"as the last one is born", []impl.Token{p[0], p[6], late}, 70, []impl.Token{p[0], p[6]}, late, true},
		{"one ahead of the last one's birth", []impl.Token{p[0], p[6], late}, 69, []impl.Token{p[0], late}, p[6], true},
		{"of a full one", p[:6], 0, p[:5], p[5], true},
		{"the only one", p[:1], 10, nil, p[0], true},
		{"the only one, behind its end", p[:1], 11, p[:1], noToken, false},
		{"ahead of all births", p[:3], -1, p[:3], noToken, false},
		{"the least int64", p[:3], math.MinInt64, p[:3], noToken, false},
		{"the largest int64", p[:3], math.MaxInt64, p[:3], noToken, false},
		{"past all times, but within its life", []impl.Token{p[0], last}, 101000, p[:1], last, true},
		{"past all times and its life", []impl.Token{p[0], last}, 101001, []impl.Token{p[0], last}, noToken, false},
		{"nil", nil, 5, nil, noToken, false},
		{"empty", []impl.Token{}, 5, nil, noToken, false},
		{"too many", p, 5, nil, noToken, false},
		{"one twice", []impl.Token{p[0], p[0]}, 5, nil, noToken, false},
		{"a wrong one ahead of a fresh one", []impl.Token{noToken, p[0]}, 5, nil, noToken, false},
		{"a wrong one behind a fresh one", []impl.Token{p[0], noToken}, 5, nil, noToken, false},
	} {
		if got, k, is := impl.Spent(c.purse, c.now); !slices.Equal(got, c.want) || k != c.token || is != c.is {
			t.Errorf("%s: %v, %v, %v", c.name, got, k, is)
		}
	}
}

func TestSwept(t *testing.T) {
	p := tokensFrom(t, 5, 7)
	late := mustToken(t, 1, 99, 70, 100, 20)
	for _, c := range []struct {
		name  string
		purse []impl.Token
		now   int64
		want  []impl.Token
	}{
		{"all are fresh", p[:6], 10, p[:6]},
		{"the first one is not", p[:6], 11, p[1:6]},
		{"the last one alone is", p[:6], 60, p[5:6]},
		{"none is", p[:6], 61, nil},
		{"the first and the last one are", []impl.Token{p[2], p[0], p[1], p[3]}, 25, []impl.Token{p[2], p[3]}},
		{"one is not born yet", []impl.Token{p[0], late, p[1]}, 5, []impl.Token{p[0], p[1]}},
		{"one is born now", []impl.Token{p[0], late, p[6]}, 70, []impl.Token{late, p[6]}},
		{"below 0", p[:6], -1, nil},
		{"the largest int64", p[:6], math.MaxInt64, nil},
		{"nil", nil, 5, nil},
		{"empty", []impl.Token{}, 5, nil},
		{"too many", p, 5, nil},
		{"one twice", []impl.Token{p[0], p[0]}, 5, nil},
		{"two of one secret, one of them not fresh", []impl.Token{p[0], mustToken(t, 1, 5, 70, 100, 20)}, 5, nil},
		{"a wrong one", []impl.Token{p[0], noToken}, 5, nil},
	} {
		if got := impl.Swept(c.purse, c.now); !slices.Equal(got, c.want) {
			t.Errorf("%s: %v", c.name, got)
		}
	}
}

func TestSpentAndSweptOfEach(t *testing.T) {
	eachPurse(t, func(p []impl.Token) {
		for _, now := range purseNows {
			checkSpent(t, "each", p, now)
			checkSwept(t, "each", p, now)
		}
	})
}

// TestSpentOfEachFreshness has each of a full purse's tokens fresh or not, in all ways there are.
func TestSpentOfEachFreshness(t *testing.T) {
	for ways := range 1 << 6 {
		p := make([]impl.Token, 6)
		for i := range p {
			born := int64(0)
			if ways>>i&1 == 1 {
				born = 50
			}
			p[i] = mustToken(t, 1, int64(i+1), born, 20, 20)
		}
		checkSpent(t, "at 50", p, 50)
		checkSwept(t, "at 50", p, 50)
		checkSpent(t, "at 20", p, 20)
		checkSwept(t, "at 20", p, 20)
	}
}

// TestWhatIsSpentIsFreshAndWasKept keeps, spends and sweeps in all ways of up to 5 steps, and counts for itself what was kept and is not gone yet.
func TestWhatIsSpentIsFreshAndWasKept(t *testing.T) {
	tokens := []impl.Token{
		mustToken(t, 1, 5, 0, 10, 20), mustToken(t, 1, 6, 0, 20, 20), mustToken(t, 2, 5, 15, 10, 20), noToken,
	}
	spent := 0
	var walk func(p []impl.Token, here map[impl.Token]bool, steps int)
	walk = func(p []impl.Token, here map[impl.Token]bool, steps int) {
		if !impl.PurseOk(p) || len(p) != len(here) {
			t.Fatalf("%v, where %v are kept", p, here)
		}
		if steps == 0 {
			return
		}
		for _, k := range tokens {
			next, is := impl.Kept(p, k)
			now := maps.Clone(here)
			if is {
				now[k] = true
			}
			walk(next, now, steps-1)
		}
		for _, at := range []int64{5, 15, 26} {
			next, k, is := impl.Spent(p, at)
			if is && (!isFresh(k, at) || !here[k]) {
				t.Fatalf("Spent(%v, %d) is %v, where %v are kept", p, at, k, here)
			}
			if is {
				spent++
			}
			left := maps.Clone(here)
			delete(left, k)
			walk(next, left, steps-1)
			fresh := maps.Clone(here)
			maps.DeleteFunc(fresh, func(k impl.Token, _ bool) bool { return !isFresh(k, at) })
			walk(impl.Swept(p, at), fresh, steps-1)
		}
	}
	walk(nil, map[impl.Token]bool{}, 5)
	if spent < 1000 {
		t.Fatalf("only %d were spent", spent)
	}
}

// TestSpentOfAPurseThatWasFull goes one long way, on which more is kept than spent, so that first ones have to go.
func TestSpentOfAPurseThatWasFull(t *testing.T) {
	var p []impl.Token
	kept := map[impl.Token]bool{}
	spent, gone, state := 0, 0, int64(1)
	for now := range int64(3000) {
		// Any fixed row of numbers does, as long as it is not in step with the calls.
		state = (state*1103515245 + 12345) % (1 << 31)
		chance := state / 65536
		if chance%4 != 0 {
			k := mustToken(t, 1, chance%40+1, now+chance%3, 1+chance%15, 20)
			checkKept(t, "on the way", p, k)
			full := len(p) == 6
			next, is := impl.Kept(p, k)
			if is && full {
				gone++
			}
			kept[k] = kept[k] || is
			p = next
			continue
		}
		checkSpent(t, "on the way", p, now)
		next, k, is := impl.Spent(p, now)
		if is && (!isFresh(k, now) || !kept[k]) {
			t.Fatalf("Spent(%v, %d) is %v", p, now, k)
		}
		if is {
			spent++
			delete(kept, k)
		}
		p = next
	}
	if spent < 300 || gone < 300 {
		t.Fatalf("%d spent, %d gone", spent, gone)
	}
}

// TestEachIsSpentOnce: a full purse is spent from its end on, then nothing is there.
func TestEachIsSpentOnce(t *testing.T) {
	all := tokensFrom(t, 5, 6)
	p := all
	for i := 5; i >= 0; i-- {
		next, k, is := impl.Spent(p, 3)
		if !is || k != all[i] || !slices.Equal(next, all[:i]) {
			t.Fatalf("number %d: %v, %v, %v", i, next, k, is)
		}
		p = next
	}
	checkSpent(t, "nothing is there", p, 3)
}

func TestPurseArgumentsStay(t *testing.T) {
	tokens := tokensFrom(t, 5, 9)
	all := append(slices.Clone(tokens), noToken)
	for _, given := range [][]impl.Token{
		all,
		append([]impl.Token{noToken}, tokens...),
		append([]impl.Token{tokens[1]}, tokens...),
	} {
		arg := slices.Clone(given)
		for n := range len(arg) + 1 {
			for _, k := range append(all, mustToken(t, 1, 77, 0, 10, 20)) {
				kept, _ := impl.Kept(arg[:n], k)
				overwrite(kept, impl.Token{Secret: -9})
			}
			for _, now := range purseNows {
				spent, _, _ := impl.Spent(arg[:n], now)
				overwrite(spent, impl.Token{Secret: -9})
				overwrite(impl.Swept(arg[:n], now), impl.Token{Secret: -9})
			}
			impl.PurseOk(arg[:n])
			if !slices.Equal(arg, given) {
				t.Fatalf("behind %d now %v", n, arg)
			}
		}
	}
}

// TestPurseAnswersAreNew: what one call answered stays as it is, whatever is done to what another one answered, or to its argument.
func TestPurseAnswersAreNew(t *testing.T) {
	all := tokensFrom(t, 5, 7)
	for n := range 7 {
		for _, answer := range []func(p []impl.Token) []impl.Token{
			func(p []impl.Token) []impl.Token { next, _ := impl.Kept(p, all[6]); return next },
			func(p []impl.Token) []impl.Token { next, _ := impl.Kept(p, noToken); return next },
			func(p []impl.Token) []impl.Token { next, _, _ := impl.Spent(p, 5); return next },
			func(p []impl.Token) []impl.Token { next, _, _ := impl.Spent(p, 15); return next },
			func(p []impl.Token) []impl.Token { next, _, _ := impl.Spent(p, 99); return next },
			func(p []impl.Token) []impl.Token { return impl.Swept(p, 5) },
			func(p []impl.Token) []impl.Token { return impl.Swept(p, 15) },
		} {
			arg := slices.Clone(all[:n])
			first, second := answer(arg), answer(arg)
			want := slices.Clone(second)
			overwrite(first, noToken)
			overwrite(arg, noToken)
			if !slices.Equal(second, want) {
				t.Fatalf("of %d: now %v", n, second)
			}
		}
	}
}
