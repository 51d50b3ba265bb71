package tests

import (
	"fmt"
	"math"
	"slices"
	"strconv"
	"strings"
	"testing"

	"loop.example/g00558/impl"
)

var noAnswer = impl.Answer{}

// answerPicks are the four picks, what is one past each end, and what a narrower integer would take for one of them.
var answerPicks = []int64{
	math.MinInt64, math.MinInt64 + 3, -3, -1, 0, 1, 2, 3, 4, 5, 6, 1<<8 + 1, 1<<16 + 2, 1<<32 + 3, 1<<32 + 4, math.MaxInt64,
}

// finPicks are the picks whose answers have a Fin.
var finPicks = []int64{impl.PkFull, impl.PkToken, impl.PkEarly}

var answerDraws = []int64{math.MinInt64, -12, -1, 0, 1, 5, 9, 12, 99999, 100000, 100001, 1<<32 + 9, 1<<32 + 12, math.MaxInt64}

var answerSecrets = []int64{math.MinInt64, -5, -1, 0, 1, 5, 9, 12, 99999, 100000, 100001, 1 << 32, 1<<32 + 5, math.MaxInt64}

func isDraw(n int64) bool {
	return n >= 1 && n <= 100000
}

// answerIsRight says what chapter 11 says of an Answer.
func answerIsRight(a impl.Answer) bool {
	switch a.Pick {
	case 1, 2, 3:
		return isDraw(a.Hello) && isDraw(a.Draw) && boxIsRight(a.Fin.Key, a.Fin.No, a.Fin.Text)
	case 4:
		return isDraw(a.Hello) && a.Draw == 0 && a.Fin == noBox
	}
	return false
}

// finOf is the Fin that chapter 11 tells of, right or wrong.
func finOf(secret, hello, draw, pick int64) impl.Box {
	return impl.Box{Key: impl.Key{Use: impl.KyHand, Secret: secret, Hello: hello, Answer: draw}, Text: fmt.Sprint(pick)}
}

func wantAnswering(hello, draw, pick, secret int64) (impl.Answer, bool) {
	if isDraw(hello) && pick == 4 {
		return impl.Answer{Hello: hello, Pick: 4}, true
	}
	shared := pick == 1 && secret == 0 || (pick == 2 || pick == 3) && isDraw(secret)
	if !isDraw(hello) || !isDraw(draw) || !shared {
		return noAnswer, false
	}
	return impl.Answer{Hello: hello, Draw: draw, Pick: pick, Fin: finOf(secret, hello, draw, pick)}, true
}

func wantProves(a impl.Answer, secret int64) bool {
	switch {
	case !answerIsRight(a):
		return false
	case a.Pick == 4:
		return true
	case a.Pick == 1:
		return a.Fin == finOf(0, a.Hello, a.Draw, 1)
	}
	return isDraw(secret) && a.Fin == finOf(secret, a.Hello, a.Draw, a.Pick)
}

func checkAnswering(t *testing.T, name string, hello, draw, pick, secret int64) bool {
	t.Helper()
	want, right := wantAnswering(hello, draw, pick, secret)
	if got, is := impl.Answering(hello, draw, pick, secret); got != want || is != right {
		t.Fatalf("%s: Answering(%d, %d, %d, %d) = %v, %v", name, hello, draw, pick, secret, got, is)
	}
	return right
}

func checkProves(t *testing.T, name string, a impl.Answer, secret int64) bool {
	t.Helper()
	want := wantProves(a, secret)
	if got := impl.Proves(a, secret); got != want {
		t.Fatalf("%s: Proves(%v, %d) = %v", name, a, secret, got)
	}
	return want
}

func mustAnswer(t *testing.T, hello, draw, pick, secret int64) impl.Answer {
	t.Helper()
	a, is := impl.Answering(hello, draw, pick, secret)
	if !is {
		t.Fatalf("Answering(%d, %d, %d, %d) is false", hello, draw, pick, secret)
	}
	return a
}

// answerFins are right and wrong boxes: the Fins of 12 to 9 by secrets 0, 5 and 9, such as differ from them in one thing, and some that are zero but for one thing.
func answerFins(t *testing.T) []impl.Box {
	t.Helper()
	list := []impl.Box{
		noBox, {Spoilt: true}, {Text: "3"}, {No: 1}, {Key: impl.Key{Secret: 5}},
		mustLock(t, impl.HandKey(5, 9, 12), 0, "4"), mustLock(t, impl.HandKey(5, 9, 12), 0, "0"),
		mustLock(t, impl.HandKey(5, 9, 12), 0, ""), mustLock(t, impl.HandKey(5, 9, 12), 0, "03"),
		mustLock(t, impl.HandKey(5, 9, 12), 1, "3"), mustLock(t, impl.HandKey(5, 9, 12), 1000, "3"),
		mustLock(t, impl.HandKey(5, 12, 9), 0, "3"), mustLock(t, impl.HandKey(6, 9, 12), 0, "3"),
		mustLock(t, impl.ForthKey(5, 9, 12), 0, "3"), mustLock(t, impl.BackKey(5, 9, 12), 0, "3"),
		mustLock(t, impl.EarlyKey(5, 9), 0, "3"), mustLock(t, impl.BindKey(5, 9), 0, "3"), mustLock(t, impl.TokenKey(5), 0, "3"),
		mustLock(t, impl.HandKey(5, 9, 12), 0, strings.Repeat("3", 40)),
		{Key: impl.HandKey(5, 9, 12), Text: strings.Repeat("3", 41)},
		{Key: impl.HandKey(5, 9, 12), No: -1, Text: "3"}, {Key: impl.HandKey(5, 9, 12), No: 1001, Text: "3"},
		finOf(-1, 9, 12, 3), finOf(100001, 9, 12, 3), finOf(5, 0, 12, 3), finOf(5, 9, 0, 3), finOf(5, 9, 100001, 3),
	}
	for _, secret := range []int64{0, 5, 9} {
		for _, pick := range finPicks {
			fin := mustLock(t, impl.HandKey(secret, 9, 12), 0, strconv.FormatInt(pick, 10))
			list = append(list, fin, impl.Spoil(fin))
		}
	}
	return list
}

// eachAnswer goes through all of these numbers and boxes together, right and wrong.
func eachAnswer(t *testing.T, f func(impl.Answer)) {
	t.Helper()
	fins := answerFins(t)
	for _, hello := range answerDraws {
		for _, draw := range answerDraws {
			for _, pick := range answerPicks {
				for _, fin := range fins {
					f(impl.Answer{Hello: hello, Draw: draw, Pick: pick, Fin: fin})
				}
			}
		}
	}
}

func TestAnswerOk(t *testing.T) {
	fin := finOf(5, 9, 12, 3)
	for _, c := range []struct {
		name   string
		answer impl.Answer
		want   bool
	}{
		{"the zero Answer", noAnswer, false},
		{"PkFull", impl.Answer{Hello: 9, Draw: 12, Pick: impl.PkFull, Fin: finOf(0, 9, 12, 1)}, true},
		{"PkToken", impl.Answer{Hello: 9, Draw: 12, Pick: impl.PkToken, Fin: finOf(5, 9, 12, 2)}, true},
		{"PkEarly", impl.Answer{Hello: 9, Draw: 12, Pick: impl.PkEarly, Fin: fin}, true},
		{"PkAgain", impl.Answer{Hello: 9, Pick: impl.PkAgain}, true},
		{"one below PkFull", impl.Answer{Hello: 9, Draw: 12, Pick: 0, Fin: fin}, false},
		{"one below PkFull, nothing else", impl.Answer{Hello: 9, Pick: 0}, false},
		{"one past PkAgain", impl.Answer{Hello: 9, Draw: 12, Pick: 5, Fin: fin}, false},
		{"one past PkAgain, nothing else", impl.Answer{Hello: 9, Pick: 5}, false},
		{"a pick below 0", impl.Answer{Hello: 9, Draw: 12, Pick: -1, Fin: fin}, false},
		{"a pick below 0, nothing else", impl.Answer{Hello: 9, Pick: -4}, false},

		{"PkAgain and a draw", impl.Answer{Hello: 9, Draw: 12, Pick: impl.PkAgain}, false},
		{"PkAgain and a draw below 0", impl.Answer{Hello: 9, Draw: -1, Pick: impl.PkAgain}, false},
		{"PkAgain and a draw past MaxDraw", impl.Answer{Hello: 9, Draw: 100001, Pick: impl.PkAgain}, false},
		{"PkAgain and a Fin", impl.Answer{Hello: 9, Pick: impl.PkAgain, Fin: fin}, false},
		{"PkAgain and a Fin, the pick in it", impl.Answer{Hello: 9, Pick: impl.PkAgain, Fin: finOf(5, 9, 12, 4)}, false},
		{"PkAgain and both", impl.Answer{Hello: 9, Draw: 12, Pick: impl.PkAgain, Fin: fin}, false},
		{"PkAgain and a Fin's key alone", impl.Answer{Hello: 9, Pick: impl.PkAgain, Fin: impl.Box{Key: fin.Key}}, false},
		{"PkAgain and a Fin's use alone", impl.Answer{Hello: 9, Pick: impl.PkAgain, Fin: impl.Box{Key: impl.Key{Use: impl.KyHand}}}, false},
		{"PkAgain and a Fin's number alone", impl.Answer{Hello: 9, Pick: impl.PkAgain, Fin: impl.Box{No: 1}}, false},
		{"PkAgain and a Fin's text alone", impl.Answer{Hello: 9, Pick: impl.PkAgain, Fin: impl.Box{Text: "4"}}, false},
		{"PkAgain and a zero Fin that is spoilt", impl.Answer{Hello: 9, Pick: impl.PkAgain, Fin: impl.Box{Spoilt: true}}, false},
		{"PkAgain to nobody", impl.Answer{Pick: impl.PkAgain}, false},
		{"PkAgain to one below 0", impl.Answer{Hello: -9, Pick: impl.PkAgain}, false},
		{"PkAgain to one past MaxDraw", impl.Answer{Hello: 100001, Pick: impl.PkAgain}, false},
		{"PkAgain to the least draw", impl.Answer{Hello: 1, Pick: impl.PkAgain}, true},
		{"PkAgain to the largest draw", impl.Answer{Hello: 100000, Pick: impl.PkAgain}, true},

		{"to the least draw", impl.Answer{Hello: 1, Draw: 12, Pick: impl.PkEarly, Fin: fin}, true},
		{"to the largest draw", impl.Answer{Hello: 100000, Draw: 12, Pick: impl.PkEarly, Fin: fin}, true},
		{"to one below the least draw", impl.Answer{Hello: 0, Draw: 12, Pick: impl.PkEarly, Fin: fin}, false},
		{"to one past the largest draw", impl.Answer{Hello: 100001, Draw: 12, Pick: impl.PkEarly, Fin: fin}, false},
		{"of the least draw", impl.Answer{Hello: 9, Draw: 1, Pick: impl.PkToken, Fin: fin}, true},
		{"of the largest draw", impl.Answer{Hello: 9, Draw: 100000, Pick: impl.PkToken, Fin: fin}, true},
		{"of one below the least draw", impl.Answer{Hello: 9, Draw: 0, Pick: impl.PkToken, Fin: fin}, false},
		{"of one past the largest draw", impl.Answer{Hello: 9, Draw: 100001, Pick: impl.PkToken, Fin: fin}, false},
		{"its draw is its Hello", impl.Answer{Hello: 9, Draw: 9, Pick: impl.PkFull, Fin: fin}, true},

		{"PkFull, no Fin", impl.Answer{Hello: 9, Draw: 12, Pick: impl.PkFull}, false},
		{"PkToken, no Fin", impl.Answer{Hello: 9, Draw: 12, Pick: impl.PkToken}, false},
		{"PkEarly, no Fin", impl.Answer{Hello: 9, Draw: 12, Pick: impl.PkEarly}, false},
		{"PkFull, nothing else", impl.Answer{Hello: 9, Pick: impl.PkFull}, false},
		{"PkToken, nothing else", impl.Answer{Hello: 9, Pick: impl.PkToken}, false},
		{"PkEarly, nothing else", impl.Answer{Hello: 9, Pick: impl.PkEarly}, false},
		{"a Fin that is spoilt", impl.Answer{Hello: 9, Draw: 12, Pick: impl.PkEarly, Fin: impl.Spoil(fin)}, true},
		{"a Fin of another one's", impl.Answer{Hello: 9, Draw: 12, Pick: impl.PkEarly, Fin: finOf(6, 10, 13, 2)}, true},
		{"any box as Fin", impl.Answer{Hello: 9, Draw: 12, Pick: impl.PkFull, Fin: impl.Box{Key: impl.TokenKey(0), No: 1000, Text: "hay"}}, true},
		{"a Fin's number past the largest", impl.Answer{Hello: 9, Draw: 12, Pick: impl.PkEarly, Fin: impl.Box{Key: fin.Key, No: 1001, Text: "3"}}, false},
		{"a Fin's number below 0", impl.Answer{Hello: 9, Draw: 12, Pick: impl.PkEarly, Fin: impl.Box{Key: fin.Key, No: -1, Text: "3"}}, false},
		{"a Fin's text of the most", impl.Answer{Hello: 9, Draw: 12, Pick: impl.PkEarly, Fin: impl.Box{Key: fin.Key, Text: strings.Repeat("3", 40)}}, true},
		{"a Fin's text past the most", impl.Answer{Hello: 9, Draw: 12, Pick: impl.PkEarly, Fin: impl.Box{Key: fin.Key, Text: strings.Repeat("3", 41)}}, false},
		{"a Fin without a key", impl.Answer{Hello: 9, Draw: 12, Pick: impl.PkEarly, Fin: impl.Box{Text: "3"}}, false},
		{"a Fin of a wrong key", impl.Answer{Hello: 9, Draw: 12, Pick: impl.PkEarly, Fin: finOf(5, 9, 0, 3)}, false},
	} {
		if got := impl.AnswerOk(c.answer); got != c.want {
			t.Errorf("%s: AnswerOk(%v) = %v", c.name, c.answer, got)
		}
		if answerIsRight(c.answer) != c.want {
			t.Errorf("%s: the model", c.name)
		}
	}
}

func TestAnswerOkOfEach(t *testing.T) {
	right, fins := 0, 0
	for _, b := range answerFins(t) {
		if boxIsRight(b.Key, b.No, b.Text) {
			fins++
		}
	}
	eachAnswer(t, func(a impl.Answer) {
		want := answerIsRight(a)
		if got := impl.AnswerOk(a); got != want {
			t.Fatalf("AnswerOk(%v) = %v", a, got)
		}
		if want {
			right++
		}
	})
	// To 6 draws: of as many and of three picks with a Fin, and of PkAgain alone.
	if fins < 20 || right != 6*(6*3*fins+1) {
		t.Fatalf("%d are right, with %d Fins", right, fins)
	}
}

func TestAnswerOkOfEachBox(t *testing.T) {
	eachBox(func(b impl.Box) {
		for _, pick := range answerPicks {
			for _, draw := range []int64{12, 0} {
				a := impl.Answer{Hello: 9, Draw: draw, Pick: pick, Fin: b}
				if got := impl.AnswerOk(a); got != answerIsRight(a) {
					t.Fatalf("AnswerOk(%v) = %v", a, got)
				}
			}
		}
	})
}

func TestAnswering(t *testing.T) {
	const least, most = math.MinInt64, math.MaxInt64
	for _, c := range []struct {
		name                      string
		hello, draw, pick, secret int64
		// The zero Answer is none.
		want impl.Answer
	}{
		{"PkFull", 9, 12, impl.PkFull, 0, impl.Answer{Hello: 9, Draw: 12, Pick: 1, Fin: finOf(0, 9, 12, 1)}},
		{"PkToken", 9, 12, impl.PkToken, 5, impl.Answer{Hello: 9, Draw: 12, Pick: 2, Fin: finOf(5, 9, 12, 2)}},
		{"PkEarly", 9, 12, impl.PkEarly, 5, impl.Answer{Hello: 9, Draw: 12, Pick: 3, Fin: finOf(5, 9, 12, 3)}},
		{"PkAgain", 9, 12, impl.PkAgain, 5, impl.Answer{Hello: 9, Pick: 4}},
		{"one below PkFull", 9, 12, 0, 0, noAnswer},
		{"one below PkFull, with a secret", 9, 12, 0, 5, noAnswer},
		{"one past PkAgain", 9, 12, 5, 0, noAnswer},
		{"one past PkAgain, with a secret", 9, 12, 5, 5, noAnswer},
		{"a pick below 0", 9, 12, -1, 5, noAnswer},
		{"the least pick", 9, 12, least, 5, noAnswer},
		{"the largest pick", 9, 12, most, 5, noAnswer},

		{"PkFull, secret 1", 9, 12, impl.PkFull, 1, noAnswer},
		{"PkFull, secret 5", 9, 12, impl.PkFull, 5, noAnswer},
		{"PkFull, secret MaxDraw", 9, 12, impl.PkFull, 100000, noAnswer},
		{"PkFull, secret past MaxDraw", 9, 12, impl.PkFull, 100001, noAnswer},
		{"PkFull, secret below 0", 9, 12, impl.PkFull, -1, noAnswer},
		{"PkToken, secret 0", 9, 12, impl.PkToken, 0, noAnswer},
		{"PkToken, secret 1", 9, 12, impl.PkToken, 1, impl.Answer{Hello: 9, Draw: 12, Pick: 2, Fin: finOf(1, 9, 12, 2)}},
		{"PkToken, secret MaxDraw", 9, 12, impl.PkToken, 100000, impl.Answer{Hello: 9, Draw: 12, Pick: 2, Fin: finOf(100000, 9, 12, 2)}},
		{"PkToken, secret past MaxDraw", 9, 12, impl.PkToken, 100001, noAnswer},
		{"PkToken, secret below 0", 9, 12, impl.PkToken, -1, noAnswer},
		{"PkEarly, secret 0", 9, 12, impl.PkEarly, 0, noAnswer},
		{"PkEarly, secret 1", 9, 12, impl.PkEarly, 1, impl.Answer{Hello: 9, Draw: 12, Pick: 3, Fin: finOf(1, 9, 12, 3)}},
		{"PkEarly, secret MaxDraw", 9, 12, impl.PkEarly, 100000, impl.Answer{Hello: 9, Draw: 12, Pick: 3, Fin: finOf(100000, 9, 12, 3)}},
		{"PkEarly, secret past MaxDraw", 9, 12, impl.PkEarly, 100001, noAnswer},
		{"PkEarly, secret below 0", 9, 12, impl.PkEarly, -5, noAnswer},
		{"the least secret", 9, 12, impl.PkEarly, least, noAnswer},
		{"the largest secret", 9, 12, impl.PkEarly, most, noAnswer},

		{"to the least draw", 1, 12, impl.PkEarly, 5, impl.Answer{Hello: 1, Draw: 12, Pick: 3, Fin: finOf(5, 1, 12, 3)}},
		{"to the largest draw", 100000, 12, impl.PkEarly, 5, impl.Answer{Hello: 100000, Draw: 12, Pick: 3, Fin: finOf(5, 100000, 12, 3)}},
		{"to nobody", 0, 12, impl.PkEarly, 5, noAnswer},
		{"to one past MaxDraw", 100001, 12, impl.PkEarly, 5, noAnswer},
		{"to one below 0", -9, 12, impl.PkFull, 0, noAnswer},
		{"PkFull to nobody", 0, 12, impl.PkFull, 0, noAnswer},
		{"of the least draw", 9, 1, impl.PkFull, 0, impl.Answer{Hello: 9, Draw: 1, Pick: 1, Fin: finOf(0, 9, 1, 1)}},
		{"of the largest draw", 9, 100000, impl.PkToken, 5, impl.Answer{Hello: 9, Draw: 100000, Pick: 2, Fin: finOf(5, 9, 100000, 2)}},
		{"of no draw", 9, 0, impl.PkToken, 5, noAnswer},
		{"PkFull of no draw", 9, 0, impl.PkFull, 0, noAnswer},
		{"of one past MaxDraw", 9, 100001, impl.PkToken, 5, noAnswer},
		{"of one below 0", 9, -12, impl.PkEarly, 5, noAnswer},
		{"all alike", 9, 9, impl.PkEarly, 9, impl.Answer{Hello: 9, Draw: 9, Pick: 3, Fin: finOf(9, 9, 9, 3)}},

		{"PkAgain, nothing else", 9, 0, impl.PkAgain, 0, impl.Answer{Hello: 9, Pick: 4}},
		{"PkAgain, a secret alone", 9, 0, impl.PkAgain, 5, impl.Answer{Hello: 9, Pick: 4}},
		{"PkAgain, a draw alone", 9, 12, impl.PkAgain, 0, impl.Answer{Hello: 9, Pick: 4}},
		{"PkAgain, draw and secret below 0", 9, -1, impl.PkAgain, -1, impl.Answer{Hello: 9, Pick: 4}},
		{"PkAgain, draw and secret past MaxDraw", 9, 100001, impl.PkAgain, 100001, impl.Answer{Hello: 9, Pick: 4}},
		{"PkAgain, the least ones", 9, least, impl.PkAgain, least, impl.Answer{Hello: 9, Pick: 4}},
		{"PkAgain, the largest ones", 9, most, impl.PkAgain, most, impl.Answer{Hello: 9, Pick: 4}},
		{"PkAgain to the least draw", 1, 0, impl.PkAgain, 0, impl.Answer{Hello: 1, Pick: 4}},
		{"PkAgain to the largest draw", 100000, 0, impl.PkAgain, 0, impl.Answer{Hello: 100000, Pick: 4}},
		{"PkAgain to nobody", 0, 12, impl.PkAgain, 5, noAnswer},
		{"PkAgain to one past MaxDraw", 100001, 12, impl.PkAgain, 5, noAnswer},
		{"PkAgain to one below 0", -1, 12, impl.PkAgain, 5, noAnswer},
		{"nothing right", 0, 0, 0, 0, noAnswer},
	} {
		got, is := impl.Answering(c.hello, c.draw, c.pick, c.secret)
		if got != c.want || is != (c.want != noAnswer) {
			t.Errorf("%s: Answering(%d, %d, %d, %d) = %v, %v", c.name, c.hello, c.draw, c.pick, c.secret, got, is)
		}
		if checkAnswering(t, c.name, c.hello, c.draw, c.pick, c.secret) != (c.want != noAnswer) {
			t.Errorf("%s: the model", c.name)
		}
	}
}

// TestAnsweringOfEach: what is answered is right, and proves itself; all else is refused.
func TestAnsweringOfEach(t *testing.T) {
	var right [5]int
	for _, hello := range answerDraws {
		for _, draw := range answerDraws {
			for _, pick := range answerPicks {
				for _, secret := range answerSecrets {
					if !checkAnswering(t, "each", hello, draw, pick, secret) {
						continue
					}
					right[pick]++
					a := mustAnswer(t, hello, draw, pick, secret)
					if !impl.AnswerOk(a) || !impl.Proves(a, secret) {
						t.Fatalf("AnswerOk(%v) = %v, and it proves %v by %d", a, impl.AnswerOk(a), impl.Proves(a, secret), secret)
					}
				}
			}
		}
	}
	// There are 6 draws, and 14 numbers each that are of no matter.
	if right != [5]int{0, 6 * 6, 6 * 6 * 6, 6 * 6 * 6, 6 * 14 * 14} {
		t.Fatalf("of each pick %d are right", right)
	}
}

// TestAnsweringOfEachPick goes far past both ends of the picks.
func TestAnsweringOfEachPick(t *testing.T) {
	for pick := int64(-300); pick <= 300; pick++ {
		for _, secret := range []int64{0, 5} {
			checkAnswering(t, "each pick", 9, 12, pick, secret)
		}
	}
}

func changedAnswer(a impl.Answer, change func(a *impl.Answer)) impl.Answer {
	change(&a)
	return a
}

func TestProves(t *testing.T) {
	full := mustAnswer(t, 9, 12, impl.PkFull, 0)
	token := mustAnswer(t, 9, 12, impl.PkToken, 5)
	early := mustAnswer(t, 9, 12, impl.PkEarly, 5)
	again := mustAnswer(t, 9, 0, impl.PkAgain, 0)
	// Each of these is locked as a right one would be, but for what its name tells.
	by := func(k impl.Key, no int64, text string) func(a *impl.Answer) {
		return func(a *impl.Answer) { a.Fin = impl.Box{Key: k, No: no, Text: text} }
	}
	for _, c := range []struct {
		name   string
		answer impl.Answer
		secret int64
		want   bool
	}{
		{"PkEarly", early, 5, true},
		{"PkEarly, another secret", early, 6, false},
		{"PkEarly, secret 0", early, 0, false},
		{"PkEarly, a secret below 0", early, -5, false},
		{"PkEarly, a secret past MaxDraw", early, 100001, false},
		{"PkEarly, the least int64", early, math.MinInt64, false},
		{"PkEarly, the largest int64", early, math.MaxInt64, false},
		{"PkEarly, its secret in its low bytes", early, 1<<32 + 5, false},
		{"PkEarly, its Hello is no secret", early, 9, false},
		{"PkEarly, its draw is no secret", early, 12, false},
		{"PkEarly, its pick is no secret", early, 3, false},
		{"PkToken", token, 5, true},
		{"PkToken, another secret", token, 4, false},
		{"PkToken, secret 0", token, 0, false},
		{"PkToken, a secret below 0", token, -1, false},
		{"PkToken, a secret past MaxDraw", token, 100001, false},
		{"PkToken, secret 1", mustAnswer(t, 9, 12, impl.PkToken, 1), 1, true},
		{"PkToken, secret MaxDraw", mustAnswer(t, 9, 12, impl.PkToken, 100000), 100000, true},
		{"PkToken, one less than MaxDraw", mustAnswer(t, 9, 12, impl.PkToken, 100000), 99999, false},
		{"PkFull, secret 0", full, 0, true},
		{"PkFull, secret 5", full, 5, true},
		{"PkFull, secret MaxDraw", full, 100000, true},
		{"PkFull, a secret past MaxDraw", full, 100001, true},
		{"PkFull, a secret below 0", full, -1, true},
		{"PkFull, the least int64", full, math.MinInt64, true},
		{"PkFull, the largest int64", full, math.MaxInt64, true},
		{"PkAgain, secret 0", again, 0, true},
		{"PkAgain, secret 5", again, 5, true},
		{"PkAgain, a secret past MaxDraw", again, 100001, true},
		{"PkAgain, a secret below 0", again, -1, true},

		{"another Hello", changedAnswer(early, func(a *impl.Answer) { a.Hello = 10 }), 5, false},
		{"no Hello", changedAnswer(early, func(a *impl.Answer) { a.Hello = 0 }), 5, false},
		{"another draw", changedAnswer(early, func(a *impl.Answer) { a.Draw = 13 }), 5, false},
		{"no draw", changedAnswer(early, func(a *impl.Answer) { a.Draw = 0 }), 5, false},
		{"Hello and draw changed about", changedAnswer(early, func(a *impl.Answer) { a.Hello, a.Draw = 12, 9 }), 5, false},
		{"PkFull, another Hello", changedAnswer(full, func(a *impl.Answer) { a.Hello = 10 }), 0, false},
		{"PkFull, another draw", changedAnswer(full, func(a *impl.Answer) { a.Draw = 13 }), 0, false},
		{"PkAgain, another Hello", changedAnswer(again, func(a *impl.Answer) { a.Hello = 10 }), 5, true},
		{"PkAgain, no Hello", changedAnswer(again, func(a *impl.Answer) { a.Hello = 0 }), 5, false},
		{"PkAgain, a draw", changedAnswer(again, func(a *impl.Answer) { a.Draw = 12 }), 5, false},
		{"PkAgain, a Fin", changedAnswer(again, func(a *impl.Answer) { a.Fin = finOf(5, 9, 12, 4) }), 5, false},
		{"PkAgain, draw and Fin", changedAnswer(again, func(a *impl.Answer) { a.Draw, a.Fin = 12, finOf(5, 9, 12, 4) }), 5, false},

		{"a Fin by another secret", changedAnswer(early, by(impl.HandKey(6, 9, 12), 0, "3")), 5, false},
		{"a Fin by another secret, by that one", changedAnswer(early, by(impl.HandKey(6, 9, 12), 0, "3")), 6, true},
		{"a Fin of another Hello", changedAnswer(early, by(impl.HandKey(5, 10, 12), 0, "3")), 5, false},
		{"a Fin of another draw", changedAnswer(early, by(impl.HandKey(5, 9, 13), 0, "3")), 5, false},
		{"a Fin of both changed about", changedAnswer(early, by(impl.HandKey(5, 12, 9), 0, "3")), 5, false},
		{"a Fin of number 1", changedAnswer(early, by(early.Fin.Key, 1, "3")), 5, false},
		{"a Fin of number 3", changedAnswer(early, by(early.Fin.Key, 3, "3")), 5, false},
		{"a Fin of number MaxNo", changedAnswer(early, by(early.Fin.Key, 1000, "3")), 5, false},
		{"a Fin of a number past it", changedAnswer(early, by(early.Fin.Key, 1001, "3")), 5, false},
		{"a Fin of a number below 0", changedAnswer(early, by(early.Fin.Key, -1, "3")), 5, false},
		{"a Fin by a ForthKey", changedAnswer(early, by(impl.ForthKey(5, 9, 12), 0, "3")), 5, false},
		{"a Fin by a BackKey", changedAnswer(early, by(impl.BackKey(5, 9, 12), 0, "3")), 5, false},
		{"a Fin by an EarlyKey", changedAnswer(early, by(impl.EarlyKey(5, 9), 0, "3")), 5, false},
		{"a Fin by a BindKey", changedAnswer(early, by(impl.BindKey(5, 9), 0, "3")), 5, false},
		{"a Fin by a TokenKey", changedAnswer(early, by(impl.TokenKey(5), 0, "3")), 5, false},
		{"a Fin with PkToken in it", changedAnswer(early, by(early.Fin.Key, 0, "2")), 5, false},
		{"a Fin with PkFull in it", changedAnswer(early, by(early.Fin.Key, 0, "1")), 5, false},
		{"a Fin with PkAgain in it", changedAnswer(early, by(early.Fin.Key, 0, "4")), 5, false},
		{"a Fin with nothing in it", changedAnswer(early, by(early.Fin.Key, 0, "")), 5, false},
		{"a Fin with another text in it", changedAnswer(early, by(early.Fin.Key, 0, "hay")), 5, false},
		{"a Fin that is spoilt", changedAnswer(early, func(a *impl.Answer) { a.Fin = impl.Spoil(a.Fin) }), 5, false},
		{"a Fin that is spoilt, of PkFull", changedAnswer(full, func(a *impl.Answer) { a.Fin = impl.Spoil(a.Fin) }), 0, false},
		{"PkAgain, a zero Fin that is spoilt", changedAnswer(again, func(a *impl.Answer) { a.Fin = impl.Spoil(a.Fin) }), 0, false},
		{"no Fin", changedAnswer(early, func(a *impl.Answer) { a.Fin = noBox }), 5, false},
		{"no Fin, secret 0", changedAnswer(early, func(a *impl.Answer) { a.Fin = noBox }), 0, false},
		{"no Fin, of PkFull", changedAnswer(full, func(a *impl.Answer) { a.Fin = noBox }), 0, false},
		{"a Fin by secret 0", changedAnswer(early, by(impl.HandKey(0, 9, 12), 0, "3")), 0, false},
		{"a Fin by secret 0, by another one", changedAnswer(early, by(impl.HandKey(0, 9, 12), 0, "3")), 5, false},
		{"PkToken, a Fin by secret 0", changedAnswer(token, by(impl.HandKey(0, 9, 12), 0, "2")), 0, false},
		{"PkFull, a Fin by a secret", changedAnswer(full, by(impl.HandKey(5, 9, 12), 0, "1")), 5, false},
		{"PkFull, a Fin by a secret, by 0", changedAnswer(full, by(impl.HandKey(5, 9, 12), 0, "1")), 0, false},
		{"PkFull, a Fin by a ForthKey", changedAnswer(full, by(impl.ForthKey(0, 9, 12), 0, "1")), 0, false},
		{"PkFull, a Fin of number 1", changedAnswer(full, by(full.Fin.Key, 1, "1")), 0, false},
		{"PkFull, a Fin with 0 in it", changedAnswer(full, by(full.Fin.Key, 0, "0")), 0, false},
		{"a wrong key alike, below 0", changedAnswer(early, func(a *impl.Answer) { a.Fin = finOf(-5, 9, 12, 3) }), -5, false},
		{"a wrong key alike, past MaxDraw", changedAnswer(early, func(a *impl.Answer) { a.Fin = finOf(100001, 9, 12, 3) }), 100001, false},
		{"a wrong key and Hello alike", impl.Answer{Hello: 0, Draw: 12, Pick: 3, Fin: finOf(5, 0, 12, 3)}, 5, false},
		{"a wrong key and draw alike", impl.Answer{Hello: 9, Draw: 100001, Pick: 3, Fin: finOf(5, 9, 100001, 3)}, 5, false},

		{"one below PkFull, in its Fin too", impl.Answer{Hello: 9, Draw: 12, Pick: 0, Fin: finOf(5, 9, 12, 0)}, 5, false},
		{"one below PkFull, by secret 0", impl.Answer{Hello: 9, Draw: 12, Pick: 0, Fin: finOf(0, 9, 12, 0)}, 0, false},
		{"one below PkFull, nothing else", impl.Answer{Hello: 9}, 5, false},
		{"one past PkAgain, in its Fin too", impl.Answer{Hello: 9, Draw: 12, Pick: 5, Fin: finOf(5, 9, 12, 5)}, 5, false},
		{"one past PkAgain, by secret 0", impl.Answer{Hello: 9, Draw: 12, Pick: 5, Fin: finOf(0, 9, 12, 5)}, 0, false},
		{"one past PkAgain, nothing else", impl.Answer{Hello: 9, Pick: 5}, 5, false},
		{"a pick below 0, in its Fin too", impl.Answer{Hello: 9, Draw: 12, Pick: -3, Fin: finOf(5, 9, 12, -3)}, 5, false},
		{"the zero Answer", noAnswer, 5, false},
		{"the zero Answer, secret 0", noAnswer, 0, false},
	} {
		if got := impl.Proves(c.answer, c.secret); got != c.want {
			t.Errorf("%s: Proves(%v, %d) = %v", c.name, c.answer, c.secret, got)
		}
		if wantProves(c.answer, c.secret) != c.want {
			t.Errorf("%s: the model", c.name)
		}
	}
}

// TestAPickThatWasTurned: with all else kept, a pick that was turned into another one on the way proves nothing.
func TestAPickThatWasTurned(t *testing.T) {
	secretOf := map[int64]int64{impl.PkFull: 0, impl.PkToken: 5, impl.PkEarly: 5, impl.PkAgain: 0}
	for pick, secret := range secretOf {
		given := mustAnswer(t, 9, 12, pick, secret)
		for _, turned := range answerPicks {
			if turned == pick {
				continue
			}
			a := given
			a.Pick = turned
			for _, by := range answerSecrets {
				if impl.AnswerOk(a) != answerIsRight(a) || impl.Proves(a, by) {
					t.Fatalf("from %d: AnswerOk(%v) = %v, Proves by %d = %v", pick, a, impl.AnswerOk(a), by, impl.Proves(a, by))
				}
			}
		}
	}
}

// TestWhatIsInAFin: its own pick as a number is written, and nothing else, is what each one wants.
func TestWhatIsInAFin(t *testing.T) {
	texts := []string{
		"", "0", "4", "5", "-1", "-2", "-3", "hay", "12", "13", "23", "31", "123", "321", "pick", "true", "1.0", "3e0", "0x3",
		"257", "258", "259", "4294967299", "18446744073709551617", "18446744073709551618", "18446744073709551619", strings.Repeat("0", 39),
	}
	for _, n := range []string{"1", "2", "3"} {
		texts = append(texts,
			n, "0"+n, "00"+n, "+"+n, "-"+n, " "+n, n+" ", n+"\n", "\n"+n, n+"\x00", "\x00"+n, n+n, n+"0", n+"-", "-"+n+"-", n+"-"+n,
			n+"a", "a"+n, n+".", n+",", "'"+n+"'", "\ufeff"+n, n+"\u00a0", strings.Repeat(n, 40), strings.Repeat("0", 39)+n,
			string([]byte{n[0] - '0'}), string([]byte{n[0] | 0x80}), string(rune(0x660+int(n[0]-'0'))), string(rune(0xff10+int(n[0]-'0'))),
		)
	}
	for first := range 256 {
		texts = append(texts, string([]byte{byte(first)}))
		for second := range 256 {
			texts = append(texts, string([]byte{byte(first), byte(second)}))
		}
	}
	proved := map[string]int{}
	for _, pick := range finPicks {
		secret := int64(5)
		if pick == impl.PkFull {
			secret = 0
		}
		for _, text := range texts {
			a := impl.Answer{Hello: 9, Draw: 12, Pick: pick, Fin: impl.Box{Key: impl.HandKey(secret, 9, 12), Text: text}}
			got, own := impl.Proves(a, secret), text == strconv.FormatInt(pick, 10)
			if got != own || checkProves(t, "by the model", a, secret) != own {
				t.Fatalf("with %q in it Proves(%v, %d) = %v", text, a, secret, got)
			}
			if got {
				proved[text]++
			}
		}
	}
	// Each one twice: it is among those of one byte, too.
	if len(proved) != 3 || proved["1"] != 2 || proved["2"] != 2 || proved["3"] != 2 {
		t.Fatal(proved)
	}
}

func TestProvesOfEach(t *testing.T) {
	var proved [5]int
	eachAnswer(t, func(a impl.Answer) {
		for _, secret := range answerSecrets {
			if checkProves(t, "each", a, secret) {
				proved[a.Pick]++
			}
		}
	})
	// Of 12 to 9: PkFull by each secret, the others by 5 and by 9 alone, PkEarly once of 9 to 12, too; PkAgain to 6 draws by each secret.
	if proved != [5]int{0, 14, 2, 3, 6 * 14} {
		t.Fatalf("of each pick %d prove themselves", proved)
	}
}

// TestProvesOfEachKey: whatever else a Fin is locked by, the very key alone makes it prove anything.
func TestProvesOfEachKey(t *testing.T) {
	proved := 0
	eachKey(func(k impl.Key) {
		for _, no := range []int64{-1, 0, 1, 1000, 1001} {
			for _, pick := range finPicks {
				b := impl.Box{Key: k, No: no, Text: strconv.FormatInt(pick, 10)}
				for _, a := range []impl.Answer{{Hello: 7, Draw: 2, Pick: pick, Fin: b}, {Hello: k.Hello, Draw: k.Answer, Pick: pick, Fin: b}} {
					for _, secret := range []int64{0, 7, k.Secret} {
						if checkProves(t, "each key", a, secret) {
							proved++
						}
					}
				}
			}
		}
	})
	if proved == 0 {
		t.Fatal("none proves itself")
	}
}

func TestProvesOfEachBox(t *testing.T) {
	eachBox(func(b impl.Box) {
		for _, pick := range answerPicks {
			for _, draw := range []int64{3, 0} {
				a := impl.Answer{Hello: 2, Draw: draw, Pick: pick, Fin: b}
				for _, secret := range []int64{0, 7, b.Key.Secret} {
					checkProves(t, "each box", a, secret)
				}
			}
		}
	})
}

// TestAnAnswerProvesItselfByItsSecretAlone tries every number that may be a secret, and some that are none, at answers of each pick.
func TestAnAnswerProvesItselfByItsSecretAlone(t *testing.T) {
	for _, own := range []int64{1, 5, 50000, 100000} {
		for _, pick := range []int64{impl.PkToken, impl.PkEarly} {
			a := mustAnswer(t, 9, 12, pick, own)
			proved := 0
			for secret := int64(-2); secret <= 100002; secret++ {
				if impl.Proves(a, secret) {
					proved++
				}
			}
			if proved != 1 || !impl.Proves(a, own) {
				t.Fatalf("%v proves itself by %d secrets, by its own: %v", a, proved, impl.Proves(a, own))
			}
		}
	}
	secrets := []int64{1, 2, 5, 9, 12, 255, 256, 65537, 99999, 100000}
	asked := append(slices.Clone(noDraws), secrets...)
	for _, own := range secrets {
		for _, hello := range []int64{1, 2, 5, 9, 100000} {
			for _, draw := range []int64{1, 2, 5, 12, 100000} {
				for _, pick := range []int64{impl.PkToken, impl.PkEarly} {
					a := mustAnswer(t, hello, draw, pick, own)
					for _, secret := range asked {
						if got := impl.Proves(a, secret); got != (secret == own) {
							t.Fatalf("Proves(%v, %d) = %v", a, secret, got)
						}
					}
				}
			}
		}
	}
}

// TestWhoStandsOnTheWayProvesNothing: without a key one may lay the Fins of all answers that went by into others, and spoil them; nothing is proven but what was answered.
func TestWhoStandsOnTheWayProvesNothing(t *testing.T) {
	secrets, numbers := []int64{0, 5, 6}, []int64{9, 10, 12}
	given, fins := map[impl.Answer]int64{}, []impl.Box{noBox}
	for _, hello := range numbers {
		for _, draw := range numbers {
			for _, secret := range secrets {
				for _, pick := range finPicks {
					if (secret == 0) != (pick == impl.PkFull) {
						continue
					}
					a := mustAnswer(t, hello, draw, pick, secret)
					given[a] = secret
					fins = append(fins, a.Fin, impl.Spoil(a.Fin))
				}
			}
		}
	}
	proved := 0
	for _, hello := range append(slices.Clone(numbers), 0, 11) {
		for _, draw := range append(slices.Clone(numbers), 0, 11) {
			for _, pick := range append(slices.Clone(finPicks), 0, 4, 5) {
				for _, fin := range fins {
					a := impl.Answer{Hello: hello, Draw: draw, Pick: pick, Fin: fin}
					for _, secret := range secrets {
						if !impl.Proves(a, secret) || a == (impl.Answer{Hello: hello, Pick: impl.PkAgain}) {
							continue
						}
						proved++
						if own, was := given[a]; !was || own != secret && pick != impl.PkFull {
							t.Fatalf("%v proves itself by %d, but was not answered so", a, secret)
						}
					}
				}
			}
		}
	}
	// 9 times PkFull, by each of 3 secrets, and the two others by each of 2 secrets, by that one.
	if len(given) != 9*5 || proved != 9*3+9*4 {
		t.Fatalf("%d were answered, %d prove themselves", len(given), proved)
	}
}

// TestWhatIsPickedIsAnswered: whatever an inn picks, its answer can be given, and who greeted can have it proven.
func TestWhatIsPickedIsAnswered(t *testing.T) {
	var answered [5]int
	for _, h := range pickHellos(t) {
		for _, now := range pickNows {
			for _, wish := range append(slices.Clone(wrongWishes), rightWishes...) {
				pick := impl.Picked(1, impl.Memory{}, h, now, wish)
				secret := impl.SecretOf(1, h, now, pick)
				a, is := impl.Answering(h.Draw, 12, pick, secret)
				if is != (pick != 0) {
					t.Fatalf("%v at %d: %d is picked, and Answering = %v, %v", h, now, pick, a, is)
				}
				if !is {
					continue
				}
				answered[pick]++
				if !impl.Proves(a, h.Bind.Key.Secret) || a.Hello != h.Draw || a.Pick != pick {
					t.Fatalf("%v at %d: %d is picked, %v does not prove itself", h, now, pick, a)
				}
			}
		}
	}
	if answered[0] != 0 || slices.Min(answered[1:]) < 20 {
		t.Fatalf("of each pick %d are answered", answered)
	}
}

// TestAnswersOnALongWay: answers come spoilt, turned, late and to others, and are held against each one's own secret.
func TestAnswersOnALongWay(t *testing.T) {
	var way []impl.Answer
	var proven, refused [5]int
	secretOf, given := map[int64]int64{}, map[impl.Answer]bool{}
	state := int64(1)
	for step := range int64(40000) {
		// Any fixed row of numbers does, as long as it is not in step with the calls.
		state = (state*1103515245 + 12345) % (1 << 31)
		chance := state / 65536
		if chance%4 == 0 || len(way) == 0 {
			hello, pick := step+1, chance/4%4+1
			secretOf[hello] = chance/16%9 + 1
			secret := secretOf[hello]
			if pick == impl.PkFull {
				secret = 0
			}
			a := mustAnswer(t, hello, step+50001, pick, secret)
			way, given[a] = append(way, a), true
		}
		a := changedOnTheWay(way, chance)
		own := secretOf[a.Hello]
		proved := checkProves(t, "on a long way", a, own)
		if proved && !given[a] && a.Pick != impl.PkAgain {
			t.Fatalf("%v proves itself by %d, but was not answered so", a, own)
		}
		if proved {
			proven[a.Pick]++
		} else {
			refused[a.Pick]++
		}
	}
	if slices.Min(refused[:]) < 100 || proven[0] != 0 || slices.Min(proven[1:]) < 100 {
		t.Fatalf("of each pick %d proved themselves and %d did not", proven, refused)
	}
}

// changedOnTheWay is what one without keys may make of the last answers there were.
func changedOnTheWay(way []impl.Answer, chance int64) impl.Answer {
	late := func(n int64) impl.Answer { return way[max(0, len(way)-1-int(n))] }
	a, other := late(chance/5%40), late(chance/7%40)
	switch chance / 3 % 12 {
	case 0:
		a.Fin = impl.Spoil(a.Fin)
	case 1:
		a.Fin = other.Fin
	case 2:
		a.Hello = other.Hello
	case 3:
		a.Draw = other.Draw
	case 4:
		a.Pick = other.Pick
	case 5:
		a.Pick--
	case 6:
		a.Draw, a.Fin = 0, noBox
	}
	return a
}

// TestAnswerArgumentsStay: all of them are values, and so are their texts, but they are asked of twice with one answer.
func TestAnswerArgumentsStay(t *testing.T) {
	eachAnswer(t, func(a impl.Answer) {
		kept := a
		right, proves := impl.AnswerOk(a), impl.Proves(a, 5)
		if a != kept || impl.AnswerOk(a) != right || impl.Proves(a, 5) != proves {
			t.Fatalf("of %v now %v", kept, a)
		}
	})
}

// TestAnswersDoNotHangOnCallsAhead: what was answered, or proven, ahead of a call is of no matter.
func TestAnswersDoNotHangOnCallsAhead(t *testing.T) {
	for range 3 {
		first := mustAnswer(t, 9, 12, impl.PkEarly, 5)
		kept := first
		first.Fin.Text, first.Fin.Key.Secret, first.Pick = "hay", 6, impl.PkAgain
		for _, pick := range answerPicks {
			for _, secret := range answerSecrets {
				checkAnswering(t, "behind another one", 9, 12, pick, secret)
				checkProves(t, "one that was changed", first, secret)
			}
		}
		if second := mustAnswer(t, 9, 12, impl.PkEarly, 5); second != kept || !impl.Proves(second, 5) || impl.Proves(second, 6) {
			t.Fatalf("%v, not %v", second, kept)
		}
	}
}
