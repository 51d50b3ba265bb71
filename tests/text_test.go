package tests

import (
	"math"
	"slices"
	"strings"
	"testing"

	"loop.example/g00558/impl"
)

func TestTextOkOfEachByte(t *testing.T) {
	const right = "abcdefghijklmnopqrstuvwxyz0123456789"
	for n := range 256 {
		c := string([]byte{byte(n)})
		want := strings.Contains(right, c)
		for _, s := range []string{c, c + "bc", "a" + c + "c", "ab" + c, "abcdefghijk" + c} {
			if got := impl.TextOk(s); got != want {
				t.Errorf("TextOk(%q) = %v", s, got)
			}
		}
	}
}

func TestTextOkOfEachLength(t *testing.T) {
	if impl.MaxText != 12 {
		t.Fatalf("MaxText = %d", impl.MaxText)
	}
	for n := range 40 {
		s := strings.Repeat("z", n)
		want := n >= 1 && n <= 12
		if got := impl.TextOk(s); got != want {
			t.Errorf("TextOk of %d bytes = %v", n, got)
		}
	}
	if impl.TextOk(strings.Repeat("a", 1<<20)) {
		t.Error("TextOk of a very long text")
	}
}

func TestTextOkRefusesWhatIsNoByteOfATo9(t *testing.T) {
	for _, s := range []string{"é", "a b", "a-b", "aB", "a\n", "\x00", "\xff", "ａ", "٣"} {
		if impl.TextOk(s) {
			t.Errorf("TextOk(%q)", s)
		}
	}
}

func TestBegins(t *testing.T) {
	three := []string{"ab", "c", "def"}
	for _, c := range []struct {
		name string
		a, b []string
		want bool
	}{
		{"nil of nil", nil, nil, true},
		{"empty of nil", []string{}, nil, true},
		{"nil of empty", nil, []string{}, true},
		{"nil of some", nil, three, true},
		{"empty of some", []string{}, three, true},
		{"first one", []string{"ab"}, three, true},
		{"first two", []string{"ab", "c"}, three, true},
		{"all", []string{"ab", "c", "def"}, three, true},
		{"one more", []string{"ab", "c", "def", "g"}, three, false},
		{"one empty more", []string{"ab", "c", "def", ""}, three, false},
		{"some of nil", three, nil, false},
		{"empty text of nil", []string{""}, nil, false},
		{"first unlike", []string{"b", "c", "def"}, three, false},
		{"middle unlike", []string{"ab", "d", "def"}, three, false},
		{"last unlike", []string{"ab", "c", "dee"}, three, false},
		{"from the second on", []string{"c", "def"}, three, false},
		{"with one left out", []string{"ab", "def"}, three, false},
		{"a text that is only begun", []string{"a"}, three, false},
		{"a text with more behind it", []string{"abc"}, three, false},
		{"same bytes cut elsewhere", []string{"a", "bc", "def"}, three, false},
		{"empty text of some", []string{""}, three, false},
		{"what is no text", []string{"", "A b"}, []string{"", "A b", "c"}, true},
	} {
		if got := impl.Begins(c.a, c.b); got != c.want {
			t.Errorf("%s: Begins(%q, %q) = %v", c.name, c.a, c.b, got)
		}
	}
}

func TestBytesOf(t *testing.T) {
	for _, c := range []struct {
		list []string
		want int64
	}{
		{nil, 0},
		{[]string{}, 0},
		{[]string{""}, 0},
		{[]string{"", "", "a"}, 1},
		{[]string{"ab", "c", "def"}, 6},
		{[]string{"same", "same"}, 8},
		{[]string{"abcdefghijkl", "abcdefghijklm"}, 25},
		{[]string{"é", "\xff", "A b"}, 6},
		{slices.Repeat([]string{"abcdefghijkl"}, 1000), 12000},
	} {
		if got := impl.BytesOf(c.list); got != c.want {
			t.Errorf("BytesOf(%.60q) = %d, not %d", c.list, got, c.want)
		}
	}
}

func TestUpto(t *testing.T) {
	three := []string{"ab", "c", "def"}
	for _, c := range []struct {
		name string
		list []string
		most int64
		want int64
	}{
		{"nothing goes in 0", three, 0, 0},
		{"one byte too few for the first", three, 1, 0},
		{"the first met exactly", three, 2, 1},
		{"two met exactly", three, 3, 2},
		{"one byte too few for the third", three, 5, 2},
		{"all met exactly", three, 6, 3},
		{"room left", three, 7, 3},
		{"the most there can be", three, math.MaxInt64, 3},
		{"below 0", three, -1, 0},
		{"the least there can be", three, math.MinInt64, 0},
		{"nil in 0", nil, 0, 0},
		{"nil in some", nil, 9, 0},
		{"nil below 0", nil, -1, 0},
		{"empty in some", []string{}, 9, 0},
		{"none is passed over", []string{"def", "a"}, 2, 0},
		{"none behind a refused one", []string{"a", "def", "b"}, 2, 1},
		{"empty texts in 0", []string{"", "", "a", ""}, 0, 2},
		{"empty texts below 0", []string{"", ""}, -1, 0},
		{"empty texts behind a limit met", []string{"ab", "", "", "c"}, 2, 3},
		{"bytes, not runes", []string{"é", "a"}, 2, 1},
		{"what is no text", []string{"A b", "abcdefghijklm"}, 16, 2},
	} {
		if got := impl.Upto(c.list, c.most); got != c.want {
			t.Errorf("%s: Upto(%q, %d) = %d, not %d", c.name, c.list, c.most, got, c.want)
		}
	}
}

// TestUptoHasAsManyAsGoIn goes through all lists of up to 5 texts of 0 to 3 bytes.
func TestUptoHasAsManyAsGoIn(t *testing.T) {
	sizes := []string{"", "a", "b2", "c3c"}
	lists := [][]string{nil}
	for begin := 0; len(lists[begin]) < 5; begin++ {
		for _, s := range sizes {
			lists = append(lists, append(slices.Clone(lists[begin]), s))
		}
	}
	for _, list := range lists {
		for most := int64(-2); most <= 16; most++ {
			n := impl.Upto(list, most)
			if n < 0 || n > int64(len(list)) {
				t.Fatalf("Upto(%q, %d) = %d", list, most, n)
			}
			if n > 0 && lengthOf(list[:n]) > most {
				t.Fatalf("Upto(%q, %d) = %d: too many", list, most, n)
			}
			if n < int64(len(list)) && lengthOf(list[:n+1]) <= most {
				t.Fatalf("Upto(%q, %d) = %d: one more goes in", list, most, n)
			}
		}
		if impl.Upto(list, impl.BytesOf(list)) != int64(len(list)) {
			t.Fatalf("Upto(%q) of all its bytes is not all", list)
		}
	}
}

func lengthOf(list []string) int64 {
	return int64(len(strings.Join(list, "")))
}

func TestTextArgumentsStay(t *testing.T) {
	want := []string{"ab", "", "A b", "spare", "room"}
	whole := slices.Clone(want)
	other := slices.Clone(want)
	for n := range len(whole) + 1 {
		list := whole[:n]
		impl.Begins(list, other[:3])
		impl.Begins(other[:3], list)
		impl.Begins(list, list)
		impl.BytesOf(list)
		for _, most := range []int64{math.MinInt64, -1, 0, 2, 3, math.MaxInt64} {
			impl.Upto(list, most)
		}
	}
	if !slices.Equal(whole, want) || !slices.Equal(other, want) {
		t.Fatalf("now %q and %q", whole, other)
	}
}
