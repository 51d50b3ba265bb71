package tests

import (
	"math"
	"slices"
	"testing"

	"loop.example/g00558/impl"
)

func timeIsRight(n int64) bool {
	return n >= 0 && n <= 100000
}

// memoryIsRight says what chapter 8 says of a Memory.
func memoryIsRight(m impl.Memory) bool {
	for _, hello := range m.Seen {
		if hello < 1 || hello > 100000 {
			return false
		}
	}
	return len(m.Seen) <= 6 && !someAlike(m.Seen) && timeIsRight(m.Since)
}

func wantMayHear(m impl.Memory, hello, said, now int64) int64 {
	if !memoryIsRight(m) || hello < 1 || hello > 100000 || !timeIsRight(said) || !timeIsRight(now) {
		return 5
	}
	if now-m.Since <= 61 {
		return 1
	}
	if said < now-30 || said > now+30 {
		return 2
	}
	if slices.Contains(m.Seen, hello) {
		return 3
	}
	if len(m.Seen) == 6 {
		return 4
	}
	return 0
}

func wantNoted(m impl.Memory, hello int64) (impl.Memory, bool) {
	if !memoryIsRight(m) {
		return impl.Memory{}, false
	}
	if hello < 1 || hello > 100000 || slices.Contains(m.Seen, hello) || len(m.Seen) == 6 {
		return m, false
	}
	return impl.Memory{Seen: append(slices.Clone(m.Seen), hello), Since: m.Since}, true
}

func sameMemory(a, b impl.Memory) bool {
	return slices.Equal(a.Seen, b.Seen) && a.Since == b.Since
}

func checkMayHear(t *testing.T, m impl.Memory, hello, said, now int64) int64 {
	t.Helper()
	got, want := impl.MayHear(m, hello, said, now), wantMayHear(m, hello, said, now)
	if got != want {
		t.Fatalf("MayHear(%v, %d, %d, %d) = %d, not %d", m, hello, said, now, got, want)
	}
	return got
}

func checkNoted(t *testing.T, m impl.Memory, hello int64) {
	t.Helper()
	want, right := wantNoted(m, hello)
	if got, is := impl.Noted(m, hello); !sameMemory(got, want) || is != right {
		t.Fatalf("Noted(%v, %d) = %v, %v", m, hello, got, is)
	}
}

func mustMemory(t *testing.T, now int64) impl.Memory {
	t.Helper()
	m, is := impl.NewMemory(now)
	if !is {
		t.Fatalf("NewMemory(%d) is none", now)
	}
	return m
}

func mustNote(t *testing.T, m impl.Memory, hello int64) impl.Memory {
	t.Helper()
	next, is := impl.Noted(m, hello)
	if !is {
		t.Fatalf("Noted(%v, %d) is false", m, hello)
	}
	return next
}

// drawsFrom are so many draws from first on, each one less than the one ahead of it.
func drawsFrom(first int64, count int) []int64 {
	list := make([]int64, count)
	for i := range list {
		list[i] = first - int64(i)
	}
	return list
}

var noDraws = []int64{math.MinInt64, -100000, -1, 0, 100001, 1<<32 + 7, math.MaxInt64}

var memoryTimes = []int64{math.MinInt64, -1, 0, 1, 100, 99999, 100000, 100001, 1<<32 + 100, math.MaxInt64}

// eachSeen goes through all lists of up to 4, of draws and of what is none, then has each count around the limit, with one wrong or doubled number at each place of it.
func eachSeen(f func([]int64)) {
	pool := []int64{7, 1, 100000, 2, 0, -7, 100001}
	lists := [][]int64{nil}
	for begin := 0; begin < len(lists); begin++ {
		list := lists[begin]
		f(list)
		if len(list) == 4 {
			continue
		}
		for _, n := range pool {
			lists = append(lists, append(slices.Clone(list), n))
		}
	}
	for count := 5; count <= 8; count++ {
		list := drawsFrom(9, count)
		f(list)
		for i := range list {
			for _, n := range append(slices.Clone(noDraws), list[0], list[count-1]) {
				changed := slices.Clone(list)
				changed[i] = n
				f(changed)
			}
		}
	}
	f(drawsFrom(90, 90))
}

// eachMemory has each of these lists since a right time, and some of them since each other one.
func eachMemory(f func(impl.Memory)) {
	eachSeen(func(list []int64) {
		f(impl.Memory{Seen: list, Since: 100})
	})
	for _, since := range memoryTimes {
		for _, list := range [][]int64{nil, {7}, {7, 7}, {0}, drawsFrom(9, 6), drawsFrom(9, 7)} {
			f(impl.Memory{Seen: list, Since: since})
		}
	}
}

func TestMemoryConstants(t *testing.T) {
	got := []int64{impl.MaxSeen, impl.Window, impl.Slack, impl.MhYes, impl.MhYoung, impl.MhStale, impl.MhSeen, impl.MhFull, impl.MhBad}
	if want := []int64{6, 61, 30, 0, 1, 2, 3, 4, 5}; !slices.Equal(got, want) {
		t.Fatalf("%d", got)
	}
}

func TestMemoryOk(t *testing.T) {
	for _, c := range []struct {
		name   string
		memory impl.Memory
		want   bool
	}{
		{"the zero Memory", impl.Memory{}, true},
		{"an empty list", impl.Memory{Seen: []int64{}, Since: 5}, true},
		{"one draw", impl.Memory{Seen: []int64{7}, Since: 5}, true},
		{"the least and the largest draw", impl.Memory{Seen: []int64{100000, 1}, Since: 5}, true},
		{"one less than the most", impl.Memory{Seen: drawsFrom(9, 5), Since: 5}, true},
		{"the most", impl.Memory{Seen: drawsFrom(9, 6), Since: 5}, true},
		{"one more than the most", impl.Memory{Seen: drawsFrom(9, 7), Since: 5}, false},
		{"two alike", impl.Memory{Seen: []int64{7, 7}, Since: 5}, false},
		{"the first and the last alike", impl.Memory{Seen: []int64{7, 8, 9, 7}, Since: 5}, false},
		{"the most, the last two alike", impl.Memory{Seen: []int64{1, 2, 3, 4, 5, 5}, Since: 5}, false},
		{"0 is no draw", impl.Memory{Seen: []int64{7, 0}, Since: 5}, false},
		{"0 alone", impl.Memory{Seen: []int64{0}, Since: 5}, false},
		{"below 0", impl.Memory{Seen: []int64{-7}, Since: 5}, false},
		{"past the largest draw", impl.Memory{Seen: []int64{100001, 7}, Since: 5}, false},
		{"since 0", impl.Memory{Seen: []int64{7}, Since: 0}, true},
		{"since one ahead of 0", impl.Memory{Seen: []int64{7}, Since: -1}, false},
		{"since MaxTime", impl.Memory{Seen: []int64{7}, Since: 100000}, true},
		{"since one past MaxTime", impl.Memory{Seen: []int64{7}, Since: 100001}, false},
		{"nothing seen, since no time", impl.Memory{Since: -1}, false},
		{"all wrong", impl.Memory{Seen: []int64{0, 0, -1, -1, 0, 0, 0}, Since: -1}, false},
	} {
		if got := impl.MemoryOk(c.memory); got != c.want {
			t.Errorf("%s: MemoryOk(%v) = %v", c.name, c.memory, got)
		}
	}
}

func TestMemoryOkOfEach(t *testing.T) {
	right := 0
	eachMemory(func(m impl.Memory) {
		want := memoryIsRight(m)
		if got := impl.MemoryOk(m); got != want {
			t.Fatalf("MemoryOk(%v) = %v", m, got)
		}
		if want {
			right++
		}
	})
	if right < 60 {
		t.Fatalf("only %d are right", right)
	}
}

func TestNewMemory(t *testing.T) {
	for _, now := range []int64{0, 1, 61, 62, 50000, 99999, 100000} {
		m, is := impl.NewMemory(now)
		if !is || !sameMemory(m, impl.Memory{Since: now}) || !impl.MemoryOk(m) {
			t.Errorf("NewMemory(%d) = %v, %v", now, m, is)
		}
	}
	for _, now := range []int64{math.MinInt64, -100000, -1, 100001, 1<<32 + 5, math.MaxInt64} {
		if m, is := impl.NewMemory(now); is || !sameMemory(m, impl.Memory{}) {
			t.Errorf("NewMemory(%d) = %v, %v", now, m, is)
		}
	}
}

func TestMayHear(t *testing.T) {
	some := impl.Memory{Seen: []int64{7, 5}, Since: 100}
	full := impl.Memory{Seen: drawsFrom(9, 6), Since: 100}
	for _, c := range []struct {
		name             string
		memory           impl.Memory
		hello, said, now int64
		want             int64
	}{
		{"it may", some, 8, 200, 200, impl.MhYes},
		{"of nothing seen", impl.Memory{Since: 100}, 7, 200, 200, impl.MhYes},
		{"of an empty list", impl.Memory{Seen: []int64{}, Since: 100}, 7, 200, 200, impl.MhYes},
		{"into the last room", impl.Memory{Seen: drawsFrom(9, 5), Since: 100}, 20, 200, 200, impl.MhYes},
		{"the least draw", some, 1, 200, 200, impl.MhYes},
		{"the largest draw", some, 100000, 200, 200, impl.MhYes},

		{"now ahead of Since", some, 8, 99, 99, impl.MhYoung},
		{"now at Since", some, 8, 100, 100, impl.MhYoung},
		{"now one less than Since and Window", some, 8, 160, 160, impl.MhYoung},
		{"now at Since and Window", some, 8, 161, 161, impl.MhYoung},
		{"now one more than Since and Window", some, 8, 162, 162, impl.MhYes},
		{"of the zero Memory, now at Window", impl.Memory{}, 8, 61, 61, impl.MhYoung},
		{"of the zero Memory, now one more than Window", impl.Memory{}, 8, 62, 62, impl.MhYes},
		{"since so late that no time is more than it and Window", impl.Memory{Since: 99939}, 8, 100000, 100000, impl.MhYoung},
		{"since one less than that", impl.Memory{Since: 99938}, 8, 100000, 100000, impl.MhYes},
		{"since MaxTime", impl.Memory{Since: 100000}, 8, 100000, 100000, impl.MhYoung},

		{"said at Slack ahead of now", some, 8, 170, 200, impl.MhYes},
		{"said one more ahead of now", some, 8, 169, 200, impl.MhStale},
		{"said at Slack behind now", some, 8, 230, 200, impl.MhYes},
		{"said one more behind now", some, 8, 231, 200, impl.MhStale},
		{"said at 0", some, 8, 0, 200, impl.MhStale},
		{"said at MaxTime", some, 8, 100000, 200, impl.MhStale},
		{"said at MaxTime, at Slack behind now", some, 8, 100000, 99970, impl.MhYes},
		{"said ahead of Since, but not stale", some, 8, 140, 162, impl.MhYes},

		{"seen first", some, 7, 200, 200, impl.MhSeen},
		{"seen last", some, 5, 200, 200, impl.MhSeen},
		{"no room", full, 20, 200, 200, impl.MhFull},

		{"young and stale", some, 8, 100, 161, impl.MhYoung},
		{"young and seen", some, 7, 161, 161, impl.MhYoung},
		{"young and no room", full, 20, 161, 161, impl.MhYoung},
		{"young, stale, seen and no room", full, 9, 0, 161, impl.MhYoung},
		{"stale and seen", some, 7, 169, 200, impl.MhStale},
		{"stale and no room", full, 20, 231, 200, impl.MhStale},
		{"stale, seen and no room", full, 4, 169, 200, impl.MhStale},
		{"seen and no room", full, 9, 200, 200, impl.MhSeen},
		{"seen last and no room", full, 4, 200, 200, impl.MhSeen},

		{"0 is no draw", some, 0, 200, 200, impl.MhBad},
		{"past the largest draw", some, 100001, 200, 200, impl.MhBad},
		{"said is no time, ahead of 0", some, 8, -1, 62, impl.MhBad},
		{"said is no time, past MaxTime", some, 8, 100001, 100000, impl.MhBad},
		{"now is no time, ahead of 0", some, 8, 0, -1, impl.MhBad},
		{"now is no time, past MaxTime", some, 8, 100000, 100001, impl.MhBad},
		{"too many", impl.Memory{Seen: drawsFrom(9, 7), Since: 100}, 20, 200, 200, impl.MhBad},
		{"two alike", impl.Memory{Seen: []int64{7, 7}, Since: 100}, 8, 200, 200, impl.MhBad},
		{"what was seen is no draw", impl.Memory{Seen: []int64{0}, Since: 100}, 8, 200, 200, impl.MhBad},
		{"since no time, ahead of 0", impl.Memory{Since: -1}, 8, 200, 200, impl.MhBad},
		{"since no time, past MaxTime", impl.Memory{Since: 100001}, 8, 100000, 100000, impl.MhBad},

		{"bad and young", some, 0, 161, 161, impl.MhBad},
		{"bad and stale", some, 0, 0, 200, impl.MhBad},
		{"bad and seen", impl.Memory{Seen: []int64{7, 7}, Since: 100}, 7, 200, 200, impl.MhBad},
		{"bad, seen and no draw", impl.Memory{Seen: []int64{0}, Since: 100}, 0, 200, 200, impl.MhBad},
		{"bad and no room", full, 0, 200, 200, impl.MhBad},
		{"all bad", impl.Memory{Seen: []int64{0, 0}, Since: -1}, 0, -1, -1, impl.MhBad},
	} {
		if got := impl.MayHear(c.memory, c.hello, c.said, c.now); got != c.want {
			t.Errorf("%s: MayHear(%v, %d, %d, %d) = %d", c.name, c.memory, c.hello, c.said, c.now, got)
		}
	}
}

func TestMayHearOfEach(t *testing.T) {
	hellos := append(slices.Clone(noDraws), 1, 2, 7, 9, 50, 100000)
	times := append(slices.Clone(memoryTimes), 61, 62, 131, 132, 161, 162, 192, 193)
	var came [6]int
	eachMemory(func(m impl.Memory) {
		for _, hello := range hellos {
			for _, said := range times {
				for _, now := range []int64{math.MinInt64, -1, 161, 162, 193, said, 100001, math.MaxInt64} {
					came[checkMayHear(t, m, hello, said, now)]++
				}
			}
		}
	})
	for code, count := range came {
		if count < 10 {
			t.Errorf("code %d came %d times", code, count)
		}
	}
}

// TestMayHearAtEachTime has each time around Since, Window and Slack, said at each other one.
func TestMayHearAtEachTime(t *testing.T) {
	for _, since := range []int64{0, 1, 40, 99930, 99938, 99939, 99999, 100000} {
		begin := max(0, min(since, 99890)-3)
		for _, list := range [][]int64{nil, {7}, drawsFrom(9, 6), drawsFrom(20, 6)} {
			m := impl.Memory{Seen: list, Since: since}
			for now := begin - 1; now <= begin+112; now++ {
				for said := begin - 1; said <= begin+112; said++ {
					checkMayHear(t, m, 7, said, now)
				}
			}
		}
	}
}

func TestNoted(t *testing.T) {
	nothing := impl.Memory{Since: 100}
	some := impl.Memory{Seen: []int64{7, 5}, Since: 100}
	full := impl.Memory{Seen: drawsFrom(9, 6), Since: 100}
	tooMany := impl.Memory{Seen: drawsFrom(9, 7), Since: 100}
	for _, c := range []struct {
		name   string
		memory impl.Memory
		hello  int64
		want   impl.Memory
		is     bool
	}{
		{"into nothing", nothing, 7, impl.Memory{Seen: []int64{7}, Since: 100}, true},
		{"into an empty list", impl.Memory{Seen: []int64{}, Since: 100}, 7, impl.Memory{Seen: []int64{7}, Since: 100}, true},
		{"into the zero Memory", impl.Memory{}, 7, impl.Memory{Seen: []int64{7}}, true},
		{"behind larger ones", some, 3, impl.Memory{Seen: []int64{7, 5, 3}, Since: 100}, true},
		{"behind smaller ones", some, 9, impl.Memory{Seen: []int64{7, 5, 9}, Since: 100}, true},
		{"between in size, but at the end", some, 6, impl.Memory{Seen: []int64{7, 5, 6}, Since: 100}, true},
		{"the least draw", some, 1, impl.Memory{Seen: []int64{7, 5, 1}, Since: 100}, true},
		{"the largest draw", some, 100000, impl.Memory{Seen: []int64{7, 5, 100000}, Since: 100}, true},
		{"since 0", impl.Memory{Seen: []int64{7}, Since: 0}, 5, impl.Memory{Seen: []int64{7, 5}, Since: 0}, true},
		{"since MaxTime", impl.Memory{Seen: []int64{7}, Since: 100000}, 5, impl.Memory{Seen: []int64{7, 5}, Since: 100000}, true},
		{"into the last room", impl.Memory{Seen: drawsFrom(9, 5), Since: 100}, 4, full, true},

		{"there first", some, 7, some, false},
		{"there last", some, 5, some, false},
		{"0 is no draw", some, 0, some, false},
		{"0 is no draw, into nothing", nothing, 0, nothing, false},
		{"below 0", some, -7, some, false},
		{"past the largest draw", some, 100001, some, false},
		{"no room", full, 20, full, false},
		{"no room, and there", full, 9, full, false},
		{"no room, and no draw", full, 0, full, false},

		{"too many", tooMany, 20, impl.Memory{}, false},
		{"too many, and there", tooMany, 9, impl.Memory{}, false},
		{"two alike", impl.Memory{Seen: []int64{7, 7}, Since: 100}, 5, impl.Memory{}, false},
		{"two alike, and there", impl.Memory{Seen: []int64{7, 7}, Since: 100}, 7, impl.Memory{}, false},
		{"what was seen is no draw", impl.Memory{Seen: []int64{7, 0}, Since: 100}, 5, impl.Memory{}, false},
		{"what was seen is no draw, and there", impl.Memory{Seen: []int64{0}, Since: 100}, 0, impl.Memory{}, false},
		{"since one ahead of 0", impl.Memory{Seen: []int64{7}, Since: -1}, 5, impl.Memory{}, false},
		{"since one past MaxTime", impl.Memory{Seen: []int64{7}, Since: 100001}, 5, impl.Memory{}, false},
		{"no draw, since no time", impl.Memory{Since: 100001}, 0, impl.Memory{}, false},
	} {
		if got, is := impl.Noted(c.memory, c.hello); !sameMemory(got, c.want) || is != c.is {
			t.Errorf("%s: Noted(%v, %d) = %v, %v", c.name, c.memory, c.hello, got, is)
		}
	}
}

func TestNotedOfEach(t *testing.T) {
	hellos := append(slices.Clone(noDraws), 1, 2, 3, 4, 5, 6, 7, 8, 9, 50, 99999, 100000)
	eachMemory(func(m impl.Memory) {
		for _, hello := range hellos {
			checkNoted(t, m, hello)
		}
	})
}

// TestNotedOneAfterTheOther: the first ones stay, in the order in which they came, whatever comes behind them.
func TestNotedOneAfterTheOther(t *testing.T) {
	came := []int64{50, 7, 100000, 1, 8, 30}
	m := mustMemory(t, 100)
	for i, hello := range came {
		m = mustNote(t, m, hello)
		if !sameMemory(m, impl.Memory{Seen: came[:i+1], Since: 100}) || !impl.MemoryOk(m) {
			t.Fatalf("behind %d: %v", hello, m)
		}
		checkNoted(t, m, hello)
	}
	for hello := range int64(200) {
		checkNoted(t, m, hello)
	}
}

func TestSeenIn(t *testing.T) {
	for _, c := range []struct {
		name   string
		memory impl.Memory
		hello  int64
		want   bool
	}{
		{"first", impl.Memory{Seen: []int64{7, 5, 9}}, 7, true},
		{"between", impl.Memory{Seen: []int64{7, 5, 9}}, 5, true},
		{"last", impl.Memory{Seen: []int64{7, 5, 9}}, 9, true},
		{"not there", impl.Memory{Seen: []int64{7, 5, 9}}, 8, false},
		{"nil", impl.Memory{}, 7, false},
		{"empty", impl.Memory{Seen: []int64{}}, 7, false},
		{"no draw, of nothing seen", impl.Memory{}, 0, false},
		{"no draw", impl.Memory{Seen: []int64{7, 5, 9}}, 0, false},
		{"since is not among them", impl.Memory{Seen: []int64{7}, Since: 100}, 100, false},
		{"twice", impl.Memory{Seen: []int64{7, 7}}, 7, true},
		{"the last of too many", impl.Memory{Seen: drawsFrom(9, 7)}, 3, true},
		{"what was seen is no draw", impl.Memory{Seen: []int64{0}}, 0, true},
		{"since no time", impl.Memory{Seen: []int64{7}, Since: -1}, 7, true},
	} {
		if got := impl.SeenIn(c.memory, c.hello); got != c.want {
			t.Errorf("%s: SeenIn(%v, %d) = %v", c.name, c.memory, c.hello, got)
		}
	}
}

func TestSeenInOfEach(t *testing.T) {
	hellos := append(slices.Clone(noDraws), 1, 2, 3, 7, 9, 50, 100000)
	eachMemory(func(m impl.Memory) {
		for _, hello := range hellos {
			if got := impl.SeenIn(m, hello); got != slices.Contains(m.Seen, hello) {
				t.Fatalf("SeenIn(%v, %d) = %v", m, hello, got)
			}
		}
	})
}

// TestWhatWasNotedIsNotHeardAgain notes 3 greetings in all ways of up to 7 steps, and asks of each of them behind each step, at times near and far.
func TestWhatWasNotedIsNotHeardAgain(t *testing.T) {
	var walk func(m impl.Memory, noted []int64, steps int)
	walk = func(m impl.Memory, noted []int64, steps int) {
		for _, hello := range []int64{7, 5, 100000} {
			had := slices.Contains(noted, hello)
			if impl.SeenIn(m, hello) != had {
				t.Fatalf("SeenIn(%v, %d), where %d were noted", m, hello, noted)
			}
			for _, now := range []int64{162, 163, 200, 5000, 100000} {
				got := impl.MayHear(m, hello, now, now)
				if had && got != impl.MhSeen || !had && got != impl.MhYes {
					t.Fatalf("MayHear(%v, %d, %d, %d) = %d, where %d were noted", m, hello, now, now, got, noted)
				}
			}
			next, is := impl.Noted(m, hello)
			if is == had {
				t.Fatalf("Noted(%v, %d) is %v, where %d were noted", m, hello, is, noted)
			}
			if steps == 0 {
				continue
			}
			if is {
				walk(next, append(slices.Clone(noted), hello), steps-1)
			} else {
				walk(next, noted, steps-1)
			}
		}
	}
	walk(mustMemory(t, 100), nil, 6)
}

// TestNothingIsHeardAgainBehindAFall: of what was heard once, nothing is heard by a memory that is new since then, however late it comes.
func TestNothingIsHeardAgainBehindAFall(t *testing.T) {
	heard, again := 0, 0
	for _, first := range []int64{62, 150, 99700} {
		for said := first - 31; said <= first+31; said++ {
			if impl.MayHear(mustMemory(t, 0), 7, said, first) != impl.MhYes {
				continue
			}
			heard++
			for fall := first; fall <= first+65; fall++ {
				m := mustMemory(t, fall)
				for now := fall; now <= fall+130; now++ {
					if impl.MayHear(m, 7, said, now) == impl.MhYes {
						t.Fatalf("said at %d, heard at %d, behind a fall at %d heard again at %d", said, first, fall, now)
					}
					if impl.MayHear(m, 7, now, now) == impl.MhYes {
						again++
					}
				}
			}
		}
	}
	// Else it would hold of a program that never hears a thing.
	if heard != 3*61 || again != heard*66*69 {
		t.Fatalf("%d heard, %d that were said later", heard, again)
	}
}

// TestEachIsHeardOnceOnALongWay: greetings come doubled and late, and the house falls now and then, or has no room.
func TestEachIsHeardOnceOnALongWay(t *testing.T) {
	type greeting struct{ hello, said int64 }
	m := mustMemory(t, 0)
	var way []greeting
	heard, came := map[int64]bool{}, [6]int{}
	falls, state := 0, int64(1)
	for now := range int64(60000) {
		// Any fixed row of numbers does, as long as it is not in step with the calls.
		state = (state*1103515245 + 12345) % (1 << 31)
		chance := state / 65536
		if chance%5 == 0 {
			// Clocks differ: what is said now may seem to be said a little ahead of now or behind it.
			way = append(way, greeting{int64(len(way) + 1), max(0, now+chance/5%71-35)})
		}
		if chance%300 == 1 {
			falls++
			m = mustMemory(t, now)
		}
		if len(way) == 0 {
			continue
		}
		g := way[max(0, len(way)-1-int(chance/7%30))]
		code := checkMayHear(t, m, g.hello, g.said, now)
		came[code]++
		if code != impl.MhYes {
			continue
		}
		if heard[g.hello] {
			t.Fatalf("%v is heard again at %d", g, now)
		}
		heard[g.hello] = true
		m = mustNote(t, m, g.hello)
	}
	for code, count := range came[:5] {
		if count < 100 {
			t.Errorf("code %d came %d times", code, count)
		}
	}
	if falls < 100 {
		t.Errorf("only %d falls", falls)
	}
}

// answeredMemories are what all functions that answer a Memory make of it.
func answeredMemories(m impl.Memory) []impl.Memory {
	var all []impl.Memory
	for _, hello := range []int64{20, 7, 0, math.MaxInt64} {
		next, _ := impl.Noted(m, hello)
		all = append(all, next)
	}
	next, _ := impl.NewMemory(m.Since)
	return append(all, next)
}

func TestMemoryArgumentsStay(t *testing.T) {
	for _, given := range [][]int64{
		drawsFrom(9, 9),
		{7, 7, 6, 5, 4, 3, 2, 1},
		{0, 7, 6, 5, 4, 3, 2, 1},
		{1, 2, 3, 4, 5, 100001, 6, 0},
	} {
		for _, since := range []int64{-1, 0, 100} {
			arg := slices.Clone(given)
			for n := range len(arg) + 1 {
				m := impl.Memory{Seen: arg[:n], Since: since}
				for _, next := range answeredMemories(m) {
					overwrite(next.Seen, -9)
				}
				impl.MemoryOk(m)
				for _, hello := range []int64{20, 7, 0} {
					impl.SeenIn(m, hello)
					impl.MayHear(m, hello, 200, 200)
				}
				if !slices.Equal(arg, given) || len(m.Seen) != n || m.Since != since {
					t.Fatalf("behind %d of them now %v, in all %d", n, m, arg)
				}
			}
		}
	}
}

// TestMemoryAnswersAreNew: what one call answered stays as it is, whatever is done to what another one answered, or to its argument.
func TestMemoryAnswersAreNew(t *testing.T) {
	for n := range 8 {
		arg := impl.Memory{Seen: drawsFrom(9, n), Since: 100}
		first, second := answeredMemories(arg), answeredMemories(arg)
		overwrite(arg.Seen, -9)
		for i, want := range answeredMemories(impl.Memory{Seen: drawsFrom(9, n), Since: 100}) {
			overwrite(first[i].Seen, -9)
			if !sameMemory(second[i], want) {
				t.Fatalf("answer %d of %d seen: now %v, not %v", i, n, second[i], want)
			}
		}
	}
}

// TestMemoryAnswersStaySo: what was seen comes in one order, however often it is asked.
func TestMemoryAnswersStaySo(t *testing.T) {
	m := impl.Memory{Seen: []int64{50, 7, 100000, 1, 8}, Since: 100}
	for range 500 {
		checkNoted(t, m, 30)
		checkNoted(t, m, 7)
	}
}
