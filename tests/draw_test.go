package tests

import (
	"math"
	"slices"
	"testing"

	"loop.example/g00558/impl"
)

func TestIsDraw(t *testing.T) {
	if impl.MaxDraw != 100000 {
		t.Fatalf("MaxDraw = %d", impl.MaxDraw)
	}
	for _, c := range []struct {
		n    int64
		want bool
	}{
		{math.MinInt64, false},
		{math.MinInt64 + 1, false},
		{-100000, false},
		{-1, false},
		{0, false},
		{1, true},
		{2, true},
		{5, true},
		{50000, true},
		{99999, true},
		{100000, true},
		{100001, false},
		{1<<32 + 5, false},
		{math.MaxInt64 - 1, false},
		{math.MaxInt64, false},
	} {
		if got := impl.IsDraw(c.n); got != c.want {
			t.Errorf("IsDraw(%d) = %v", c.n, got)
		}
	}
}

func TestNextDraw(t *testing.T) {
	for _, c := range []struct {
		name string
		last int64
		want int64
		is   bool
	}{
		{"the first one", 0, 1, true},
		{"the second one", 1, 2, true},
		{"one of many", 4, 5, true},
		{"the last but one", 99998, 99999, true},
		{"the limit met exactly", 99999, 100000, true},
		{"the limit passed by one", 100000, 0, false},
		{"the limit passed by two", 100001, 0, false},
		{"below 0", -1, 0, false},
		{"far below 0", -2, 0, false},
		{"as far below 0 as the limit", -100000, 0, false},
		{"the least there can be", math.MinInt64, 0, false},
		{"the most there can be", math.MaxInt64, 0, false},
		{"the most there can be but one", math.MaxInt64 - 1, 0, false},
		{"a draw in its low bits alone", 1<<32 + 4, 0, false},
	} {
		if got, is := impl.NextDraw(c.last); got != c.want || is != c.is {
			t.Errorf("%s: NextDraw(%d) = %d, %v", c.name, c.last, got, is)
		}
	}
}

// TestNextDrawIsNew draws until there is no draw left.
func TestNextDrawIsNew(t *testing.T) {
	had := map[int64]bool{}
	var all []int64
	last := int64(0)
	for len(all) <= impl.MaxDraw {
		next, is := impl.NextDraw(last)
		if !is {
			if next != 0 {
				t.Fatalf("NextDraw(%d) = %d beside false", last, next)
			}
			break
		}
		if had[next] || next <= last || !impl.IsDraw(next) {
			t.Fatalf("NextDraw(%d) = %d", last, next)
		}
		had[next] = true
		all = append(all, next)
		last = next
	}
	if len(all) != impl.MaxDraw || last != impl.MaxDraw {
		t.Fatalf("%d draws, the last one %d", len(all), last)
	}
	if !impl.AllUnlike(all) {
		t.Fatal("all draws are not AllUnlike")
	}
	if impl.AllUnlike(append(all, 77777)) {
		t.Fatal("all draws and one of them once more are AllUnlike")
	}
}

// TestNextDrawOfEachLast goes past both ends of the range.
func TestNextDrawOfEachLast(t *testing.T) {
	for last := int64(-3); last <= impl.MaxDraw+3; last++ {
		next, is := impl.NextDraw(last)
		want := last >= 0 && last < impl.MaxDraw
		if is != want || is != impl.IsDraw(next) {
			t.Fatalf("NextDraw(%d) = %d, %v", last, next, is)
		}
		if is && next != last+1 || !is && next != 0 {
			t.Fatalf("NextDraw(%d) = %d, %v", last, next, is)
		}
	}
}

func TestAllUnlike(t *testing.T) {
	for _, c := range []struct {
		name string
		list []int64
		want bool
	}{
		{"nil", nil, true},
		{"empty", []int64{}, true},
		{"one", []int64{7}, true},
		{"one 0", []int64{0}, true},
		{"two alike", []int64{7, 7}, false},
		{"two unlike", []int64{7, 8}, true},
		{"two 0", []int64{0, 0}, false},
		{"rising", []int64{1, 2, 3}, true},
		{"falling", []int64{3, 2, 1}, true},
		{"neither", []int64{3, 1, 2}, true},
		{"first and last alike", []int64{3, 1, 3}, false},
		{"first two alike", []int64{3, 3, 1}, false},
		{"last two alike", []int64{1, 3, 3}, false},
		{"all alike", []int64{4, 4, 4}, false},
		{"alike far apart", []int64{5, 1, 4, 2, 3, 5}, false},
		{"two pairs alike", []int64{1, 2, 1, 2}, false},
		{"below 0", []int64{-1, 1, 0}, true},
		{"below 0 alike", []int64{-1, 1, -1}, false},
		{"past the limit", []int64{100000, 100001, 100002}, true},
		{"past the limit alike", []int64{100001, 100000, 100001}, false},
		{"the ends", []int64{math.MaxInt64, math.MinInt64, 0, -1}, true},
		{"the ends once more", []int64{math.MinInt64, math.MaxInt64, 0, math.MinInt64}, false},
		{"numbers too far apart to subtract", []int64{math.MaxInt64, -2, math.MinInt64, 5, math.MaxInt64}, false},
		{"alike in the low bits alone", []int64{1, 1<<32 + 1, 1<<33 + 1}, true},
	} {
		if got := impl.AllUnlike(c.list); got != c.want {
			t.Errorf("%s: AllUnlike(%d) = %v", c.name, c.list, got)
		}
	}
}

// TestAllUnlikeOfAllShortLists goes through all lists of up to 5 of a few numbers, draws and none.
func TestAllUnlikeOfAllShortLists(t *testing.T) {
	numbers := []int64{math.MinInt64, -1, 0, 1, 100000, 100001, math.MaxInt64}
	lists := [][]int64{nil}
	for begin := 0; len(lists[begin]) < 5; begin++ {
		for _, n := range numbers {
			lists = append(lists, append(slices.Clone(lists[begin]), n))
		}
	}
	for _, list := range lists {
		if got, want := impl.AllUnlike(list), !someAlike(list); got != want {
			t.Fatalf("AllUnlike(%d) = %v", list, got)
		}
	}
}

func someAlike(list []int64) bool {
	for i, n := range list {
		if slices.Contains(list[:i], n) {
			return true
		}
	}
	return false
}

func TestAllUnlikeOfALongList(t *testing.T) {
	list := make([]int64, 1<<20)
	for i := range list {
		list[i] = int64(len(list) - i)
	}
	if !impl.AllUnlike(list) {
		t.Error("a long list without two alike")
	}
	list[len(list)-1] = list[0]
	if impl.AllUnlike(list) {
		t.Error("a long list whose first and last are alike")
	}
}

func TestDrawArgumentsStay(t *testing.T) {
	want := []int64{9, -3, 9, 100001, 2, 1, math.MinInt64}
	whole := slices.Clone(want)
	for begin := range len(whole) + 1 {
		for end := begin; end <= len(whole); end++ {
			first := impl.AllUnlike(whole[begin:end])
			if second := impl.AllUnlike(whole[begin:end]); first != second {
				t.Fatalf("AllUnlike(%d) = %v, then %v", want[begin:end], first, second)
			}
			if !slices.Equal(whole, want) {
				t.Fatalf("behind AllUnlike(%d) now %d", want[begin:end], whole)
			}
		}
	}
}
