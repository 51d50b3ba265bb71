package tests

import (
	"math"
	"slices"
	"strconv"
	"strings"
	"testing"

	"loop.example/g00558/impl"
)

var noRow = impl.Row{}

// rowIsRight says what chapter 5 says: unlike a box, a row may have the zero Key.
func rowIsRight(r impl.Row) bool {
	k := r.Key
	return (k == noKey || keyIsRight(k.Use, k.Secret, k.Hello, k.Answer)) && r.No >= 0 && r.No <= 1000
}

func eachRow(f func(impl.Row)) {
	for _, k := range boxKeys {
		for _, no := range boxNos {
			f(impl.Row{Key: k, No: no})
		}
	}
}

// stays is what is answered of a row beside a false.
func stays(r impl.Row) impl.Row {
	if !rowIsRight(r) {
		return noRow
	}
	return r
}

func wantPut(r impl.Row, text string) (impl.Row, impl.Box, bool) {
	if !rowIsRight(r) || r.Key == noKey || r.No == 1000 || len(text) > 40 {
		return stays(r), noBox, false
	}
	return impl.Row{Key: r.Key, No: r.No + 1}, impl.Box{Key: r.Key, No: r.No, Text: text}, true
}

func wantTake(r impl.Row, b impl.Box) (impl.Row, string, bool) {
	opens := boxIsRight(b.Key, b.No, b.Text) && !b.Spoilt && b.Key == r.Key && b.No == r.No
	if !rowIsRight(r) || !opens || r.No == 1000 {
		return stays(r), "", false
	}
	return impl.Row{Key: r.Key, No: r.No + 1}, b.Text, true
}

func checkPut(t *testing.T, name string, r impl.Row, text string) {
	t.Helper()
	wantRow, wantBox, want := wantPut(r, text)
	row, b, is := impl.Put(r, text)
	if row != wantRow || b != wantBox || is != want {
		t.Fatalf("%s: Put(%v, %q) = %v, %v, %v", name, r, text, row, b, is)
	}
}

func checkTake(t *testing.T, name string, r impl.Row, b impl.Box) {
	t.Helper()
	wantRow, wantText, want := wantTake(r, b)
	row, text, is := impl.Take(r, b)
	if row != wantRow || text != wantText || is != want {
		t.Fatalf("%s: Take(%v, %v) = %v, %q, %v", name, r, b, row, text, is)
	}
}

// mustPutAll fails where not all of them are Put.
func mustPutAll(t *testing.T, r impl.Row, list []string) []impl.Box {
	t.Helper()
	row, boxes := impl.PutAll(r, list)
	if len(boxes) != len(list) || row.Key != r.Key || row.No != r.No+int64(len(list)) {
		t.Fatalf("PutAll(%v, %q) = %v, %v", r, list, row, boxes)
	}
	return boxes
}

// numbered are so many texts, no two alike.
func numbered(count int) []string {
	list := make([]string, count)
	for i := range list {
		list[i] = "w" + strconv.Itoa(i)
	}
	return list
}

func TestRowOk(t *testing.T) {
	k := impl.EarlyKey(7, 2)
	for _, c := range []struct {
		name string
		row  impl.Row
		want bool
	}{
		{"the zero Row", noRow, true},
		{"no key, another number", impl.Row{No: 3}, true},
		{"no key, the largest number", impl.Row{No: 1000}, true},
		{"no key, a number past the largest", impl.Row{No: 1001}, false},
		{"no key, a number below 0", impl.Row{No: -1}, false},
		{"an ordinary one", impl.Row{Key: k, No: 3}, true},
		{"the least number", impl.Row{Key: k}, true},
		{"a number below 0", impl.Row{Key: k, No: -1}, false},
		{"the largest number", impl.Row{Key: k, No: 1000}, true},
		{"a number past the largest", impl.Row{Key: k, No: 1001}, false},
		{"the least int64", impl.Row{Key: k, No: math.MinInt64}, false},
		{"the largest int64", impl.Row{Key: k, No: math.MaxInt64}, false},
		{"a key of which none is shared", impl.Row{Key: impl.ForthKey(0, 2, 3)}, true},
		{"a token's key", impl.Row{Key: impl.TokenKey(7)}, true},
		{"a wrong key", impl.Row{Key: impl.Key{Use: impl.KyEarly, Secret: 7}}, false},
		{"a key of no use", impl.Row{Key: impl.Key{Secret: 7, Hello: 2}}, false},
		{"a key with one number alone", impl.Row{Key: impl.Key{Answer: 1}}, false},
		{"a secret past the largest", impl.Row{Key: impl.Key{Use: impl.KyEarly, Secret: 100001, Hello: 2}}, false},
	} {
		if got := impl.RowOk(c.row); got != c.want {
			t.Errorf("%s: RowOk(%v) = %v", c.name, c.row, got)
		}
	}
}

func TestRowOkOfEachRow(t *testing.T) {
	eachRow(func(r impl.Row) {
		if got := impl.RowOk(r); got != rowIsRight(r) {
			t.Fatalf("RowOk(%v) = %v", r, got)
		}
	})
	eachKey(func(k impl.Key) {
		if r := (impl.Row{Key: k, No: 3}); impl.RowOk(r) != rowIsRight(r) {
			t.Fatalf("RowOk(%v) is %v", r, !rowIsRight(r))
		}
	})
}

func TestPut(t *testing.T) {
	k := impl.EarlyKey(7, 2)
	long, longer := strings.Repeat("x", 40), strings.Repeat("x", 41)
	for _, c := range []struct {
		name string
		row  impl.Row
		text string
		next impl.Row
		box  impl.Box
		is   bool
	}{
		{"the first one", impl.Row{Key: k}, "hay", impl.Row{Key: k, No: 1}, impl.Box{Key: k, Text: "hay"}, true},
		{"one of many", impl.Row{Key: k, No: 3}, "hay", impl.Row{Key: k, No: 4}, impl.Box{Key: k, No: 3, Text: "hay"}, true},
		{"an empty text", impl.Row{Key: k, No: 3}, "", impl.Row{Key: k, No: 4}, impl.Box{Key: k, No: 3}, true},
		{"the longest text", impl.Row{Key: k, No: 3}, long, impl.Row{Key: k, No: 4}, impl.Box{Key: k, No: 3, Text: long}, true},
		{"a text past the longest", impl.Row{Key: k, No: 3}, longer, impl.Row{Key: k, No: 3}, noBox, false},
		{"the last one", impl.Row{Key: k, No: 999}, "hay", impl.Row{Key: k, No: 1000}, impl.Box{Key: k, No: 999, Text: "hay"}, true},
		{"past the last one", impl.Row{Key: k, No: 1000}, "hay", impl.Row{Key: k, No: 1000}, noBox, false},
		{"past the last one, too long", impl.Row{Key: k, No: 1000}, longer, impl.Row{Key: k, No: 1000}, noBox, false},
		{"no key", noRow, "hay", noRow, noBox, false},
		{"no key, another number", impl.Row{No: 3}, "hay", impl.Row{No: 3}, noBox, false},
		{"no key, the largest number", impl.Row{No: 1000}, "hay", impl.Row{No: 1000}, noBox, false},
		{"no key, a wrong number", impl.Row{No: 1001}, "hay", noRow, noBox, false},
		{"a number past the largest", impl.Row{Key: k, No: 1001}, "hay", noRow, noBox, false},
		{"a number below 0", impl.Row{Key: k, No: -1}, "hay", noRow, noBox, false},
		{"a wrong key", impl.Row{Key: impl.Key{Use: impl.KyEarly, Secret: 7}, No: 3}, "hay", noRow, noBox, false},
		{"nothing right", impl.Row{Key: impl.Key{Use: 7}, No: -1}, longer, noRow, noBox, false},
	} {
		if row, b, is := impl.Put(c.row, c.text); row != c.next || b != c.box || is != c.is {
			t.Errorf("%s: Put(%v, %q) = %v, %v, %v", c.name, c.row, c.text, row, b, is)
		}
	}
}

func TestPutOfEach(t *testing.T) {
	eachRow(func(r impl.Row) {
		for _, text := range boxTexts {
			checkPut(t, "each", r, text)
		}
	})
}

func TestTake(t *testing.T) {
	k := impl.ForthKey(7, 2, 3)
	at := func(no int64) impl.Row { return impl.Row{Key: k, No: no} }
	box := func(no int64) impl.Box { return impl.Box{Key: k, No: no, Text: "hay"} }
	for _, c := range []struct {
		name string
		row  impl.Row
		box  impl.Box
		next impl.Row
		text string
		is   bool
	}{
		{"the first one", at(0), box(0), at(1), "hay", true},
		{"one of many", at(3), box(3), at(4), "hay", true},
		{"an empty text", at(3), impl.Box{Key: k, No: 3}, at(4), "", true},
		{"the last one", at(999), box(999), at(1000), "hay", true},
		{"past the last one", at(1000), box(1000), at(1000), "", false},
		{"once more", at(4), box(3), at(4), "", false},
		{"too early", at(3), box(4), at(3), "", false},
		{"spoilt", at(3), impl.Spoil(box(3)), at(3), "", false},
		{"the zero Box", at(0), noBox, at(0), "", false},
		{"another secret", at(3), impl.Box{Key: impl.ForthKey(8, 2, 3), No: 3, Text: "hay"}, at(3), "", false},
		{"another answer", at(3), impl.Box{Key: impl.ForthKey(7, 2, 4), No: 3, Text: "hay"}, at(3), "", false},
		{"another use", at(3), impl.Box{Key: impl.BackKey(7, 2, 3), No: 3, Text: "hay"}, at(3), "", false},
		{"too long", at(3), impl.Box{Key: k, No: 3, Text: strings.Repeat("x", 41)}, at(3), "", false},
		{"no key", noRow, box(0), noRow, "", false},
		{"no key, the zero Box", noRow, noBox, noRow, "", false},
		{"no key, a box without one", impl.Row{No: 3}, impl.Box{No: 3, Text: "hay"}, impl.Row{No: 3}, "", false},
		{"a number below 0", at(-1), box(-1), noRow, "", false},
		{"a number past the largest", at(1001), box(1001), noRow, "", false},
		{"a wrong key", impl.Row{Key: impl.Key{Use: impl.KyForth, Secret: 7}, No: 3}, box(3), noRow, "", false},
	} {
		if row, text, is := impl.Take(c.row, c.box); row != c.next || text != c.text || is != c.is {
			t.Errorf("%s: Take(%v, %v) = %v, %q, %v", c.name, c.row, c.box, row, text, is)
		}
	}
}

// TestTakeOfEach holds each row against boxes of each key and number, right, spoilt and too long.
func TestTakeOfEach(t *testing.T) {
	longer := strings.Repeat("x", 41)
	taken := 0
	eachRow(func(r impl.Row) {
		eachRow(func(of impl.Row) {
			b := impl.Box{Key: of.Key, No: of.No, Text: "hay"}
			checkTake(t, "each", r, b)
			checkTake(t, "spoilt", r, impl.Spoil(b))
			b.Text = longer
			checkTake(t, "too long", r, b)
		})
		if _, _, is := impl.Take(r, impl.Box{Key: r.Key, No: r.No, Text: "hay"}); is {
			taken++
		}
	})
	// Of the 19 right keys, the numbers 0 to 4 and 999.
	if taken != 19*6 {
		t.Fatalf("%d rows take their own box", taken)
	}
}

// TestRowFromEndToEnd puts and takes one after the other, until no more goes.
func TestRowFromEndToEnd(t *testing.T) {
	from := impl.Row{Key: impl.BackKey(7, 2, 3)}
	to := from
	for no := int64(0); no < impl.MaxNo; no++ {
		text := "w" + strconv.FormatInt(no, 10)
		next, b, put := impl.Put(from, text)
		if !put || b.No != no || next.No != no+1 {
			t.Fatalf("Put number %d: %v, %v, %v", no, next, b, put)
		}
		behind, got, taken := impl.Take(to, b)
		if !taken || got != text || behind != next {
			t.Fatalf("Take number %d: %v, %q, %v", no, behind, got, taken)
		}
		checkTake(t, "once more", behind, b)
		from, to = next, behind
	}
	checkPut(t, "past the last one", from, "hay")
	checkTake(t, "past the last one", to, mustLock(t, to.Key, impl.MaxNo, "hay"))
}

func TestPutAll(t *testing.T) {
	k := impl.EarlyKey(7, 2)
	longer := strings.Repeat("x", 41)
	at := func(no int64) impl.Row { return impl.Row{Key: k, No: no} }
	box := func(no int64, text string) impl.Box { return impl.Box{Key: k, No: no, Text: text} }
	wrong := impl.Row{Key: impl.Key{Use: impl.KyEarly, Secret: 7}, No: 3}
	for _, c := range []struct {
		name  string
		row   impl.Row
		list  []string
		next  impl.Row
		boxes []impl.Box
	}{
		{"nil", at(3), nil, at(3), nil},
		{"empty", at(3), []string{}, at(3), nil},
		{"one", at(3), []string{"hay"}, at(4), []impl.Box{box(3, "hay")}},
		{"three", at(0), []string{"a", "b", "c"}, at(3), []impl.Box{box(0, "a"), box(1, "b"), box(2, "c")}},
		{"alike", at(0), []string{"a", "a", ""}, at(3), []impl.Box{box(0, "a"), box(1, "a"), box(2, "")}},
		{"none behind a refused one", at(0), []string{"a", longer, "c"}, at(1), []impl.Box{box(0, "a")}},
		{"the first one refused", at(3), []string{longer, "b"}, at(3), nil},
		{"met exactly", at(998), []string{"a", "b"}, at(1000), []impl.Box{box(998, "a"), box(999, "b")}},
		{"passed by one", at(998), []string{"a", "b", "c"}, at(1000), []impl.Box{box(998, "a"), box(999, "b")}},
		{"no number left", at(1000), []string{"a"}, at(1000), nil},
		{"no key", noRow, []string{"a", "b"}, noRow, nil},
		{"no key, another number", impl.Row{No: 3}, []string{"a"}, impl.Row{No: 3}, nil},
		{"no key, nothing to put", impl.Row{No: 3}, nil, impl.Row{No: 3}, nil},
		{"a number below 0", at(-1), []string{"a", "b"}, noRow, nil},
		{"a number past the largest", at(1001), []string{"a"}, noRow, nil},
		{"a wrong key", wrong, []string{"a"}, noRow, nil},
		{"a wrong key, nothing to put", wrong, nil, noRow, nil},
	} {
		if row, boxes := impl.PutAll(c.row, c.list); row != c.next || !slices.Equal(boxes, c.boxes) {
			t.Errorf("%s: PutAll(%v, %q) = %v, %v", c.name, c.row, c.list, row, boxes)
		}
	}
}

func TestTakeAll(t *testing.T) {
	k := impl.EarlyKey(7, 2)
	at := func(no int64) impl.Row { return impl.Row{Key: k, No: no} }
	l := mustPutAll(t, at(0), []string{"a", "b", "c"})
	other := mustPutAll(t, impl.Row{Key: impl.EarlyKey(8, 2)}, []string{"x", "y", "z"})
	last := mustLock(t, k, 999, "y")
	past := mustLock(t, k, 1000, "z")
	wrong := impl.Row{Key: impl.Key{Use: impl.KyEarly, Secret: 7}}
	for _, c := range []struct {
		name  string
		row   impl.Row
		list  []impl.Box
		next  impl.Row
		texts []string
	}{
		{"nil", at(0), nil, at(0), nil},
		{"empty", at(3), []impl.Box{}, at(3), nil},
		{"all", at(0), l, at(3), []string{"a", "b", "c"}},
		{"from the second one on", at(1), l, at(3), []string{"b", "c"}},
		{"all had", at(3), l, at(3), nil},
		{"twice each", at(0), []impl.Box{l[0], l[0], l[1], l[1], l[2], l[2]}, at(3), []string{"a", "b", "c"}},
		{"all once more", at(0), slices.Concat(l, l), at(3), []string{"a", "b", "c"}},
		{"too early, then in time", at(0), []impl.Box{l[1], l[0], l[1]}, at(2), []string{"a", "b"}},
		{"too early alone", at(0), []impl.Box{l[1], l[0]}, at(1), []string{"a"}},
		{"the other way round", at(0), []impl.Box{l[2], l[1], l[0]}, at(1), []string{"a"}},
		{"one lost", at(0), []impl.Box{l[0], l[2]}, at(1), []string{"a"}},
		{"one spoilt", at(0), []impl.Box{l[0], impl.Spoil(l[1]), l[2]}, at(1), []string{"a"}},
		{"one spoilt, and sent once more", at(0), []impl.Box{l[0], impl.Spoil(l[1]), l[2], l[1], l[2]}, at(3), []string{"a", "b", "c"}},
		{"another key's between", at(0), []impl.Box{other[0], l[0], other[1], l[1], noBox, l[2]}, at(3), []string{"a", "b", "c"}},
		{"another key's alone", at(0), other, at(0), nil},
		{"the last one, and one past it", at(999), []impl.Box{last, past}, at(1000), []string{"y"}},
		{"no number left", at(1000), []impl.Box{past}, at(1000), nil},
		{"an empty text", at(0), []impl.Box{{Key: k}, l[1]}, at(2), []string{"", "b"}},
		{"no key", noRow, l, noRow, nil},
		{"no key, boxes without one", impl.Row{No: 3}, []impl.Box{{No: 3, Text: "hay"}}, impl.Row{No: 3}, nil},
		{"a number below 0", at(-1), l, noRow, nil},
		{"a number past the largest", at(1001), l, noRow, nil},
		{"a wrong key", wrong, l, noRow, nil},
		{"a wrong key, nothing to take", wrong, nil, noRow, nil},
	} {
		if row, texts := impl.TakeAll(c.row, c.list); row != c.next || !slices.Equal(texts, c.texts) {
			t.Errorf("%s: TakeAll(%v, %v) = %v, %q", c.name, c.row, c.list, row, texts)
		}
	}
}

// TestAllOfEachRow: of each row, right or wrong, the lists go as one after the other goes.
func TestAllOfEachRow(t *testing.T) {
	eachRow(func(r impl.Row) {
		row, put := stays(r), []impl.Box(nil)
		for _, text := range boxTexts {
			next, b, is := wantPut(row, text)
			if !is {
				break
			}
			row, put = next, append(put, b)
		}
		got, boxes := impl.PutAll(r, boxTexts)
		if got != row || !slices.Equal(boxes, put) {
			t.Fatalf("PutAll of %v = %v, %v", r, got, boxes)
		}
		behind, texts := impl.TakeAll(r, boxes)
		if behind != row || !slices.Equal(texts, boxTexts[:len(put)]) {
			t.Fatalf("TakeAll of %v = %v, %q", r, behind, texts)
		}
	})
}

// TestWhatIsPutIsTaken goes from each number on to past the last one.
func TestWhatIsPutIsTaken(t *testing.T) {
	list := numbered(impl.MaxNo + 2)
	for no := int64(0); no <= impl.MaxNo; no++ {
		r := impl.Row{Key: impl.ForthKey(0, 2, 3), No: no}
		fit := list[:impl.MaxNo-no]
		from, boxes := impl.PutAll(r, list)
		to, texts := impl.TakeAll(r, boxes)
		if int64(len(boxes)) != impl.MaxNo-no || from.No != impl.MaxNo || from.Key != r.Key {
			t.Fatalf("from %d on: %d boxes, then %v", no, len(boxes), from)
		}
		if to != from || !slices.Equal(texts, fit) {
			t.Fatalf("from %d on: %d texts, then %v", no, len(texts), to)
		}
	}
}

// TestTakenInOrderEachOnce brings boxes in every order, twice, spoilt, of another key and not at all.
func TestTakenInOrderEachOnce(t *testing.T) {
	said := []string{"same", "same", "c"}
	r := impl.Row{Key: impl.EarlyKey(7, 2), No: 5}
	boxes := mustPutAll(t, r, said)
	coming := append(slices.Clone(boxes), impl.Spoil(boxes[0]), impl.Spoil(boxes[1]), mustLock(t, impl.BindKey(7, 2), 5, "x"))
	ways := [][]impl.Box{nil}
	for begin := 0; begin < len(ways); begin++ {
		way := ways[begin]
		row, texts := impl.TakeAll(r, way)
		count := comeInOrder(way, boxes)
		if !slices.Equal(texts, said[:count]) || row != (impl.Row{Key: r.Key, No: r.No + int64(count)}) {
			t.Fatalf("TakeAll(%v, %v) = %v, %q", r, way, row, texts)
		}
		if len(way) == 6 {
			continue
		}
		for _, b := range coming {
			ways = append(ways, append(slices.Clone(way), b))
		}
	}
}

// comeInOrder is how many of the boxes come in their order, each behind the one ahead of it.
func comeInOrder(way []impl.Box, boxes []impl.Box) int {
	count := 0
	for _, b := range way {
		if count < len(boxes) && b == boxes[count] {
			count++
		}
	}
	return count
}

func TestRowArgumentsStay(t *testing.T) {
	r := impl.Row{Key: impl.EarlyKey(7, 2)}
	said := []string{"a", strings.Repeat("x", 41), "c", "spare", "room"}
	put := append(mustPutAll(t, r, []string{"a", "b", "c"}), noBox, impl.Spoil(noBox))
	texts, boxes := slices.Clone(said), slices.Clone(put)
	for n := range len(texts) + 1 {
		for _, row := range []impl.Row{r, noRow, {Key: r.Key, No: -1}, {Key: r.Key, No: 1000}} {
			_, b := impl.PutAll(row, texts[:n])
			_, s := impl.TakeAll(row, boxes[:n])
			overwrite(b, impl.Box{No: -9})
			overwrite(s, "overwritten")
			if !slices.Equal(texts, said) || !slices.Equal(boxes, put) {
				t.Fatalf("behind %d of %v now %q and %v", n, row, texts, boxes)
			}
		}
	}
}

// overwrite writes into the spare room too: none of it may be anybody else's.
func overwrite[T any](list []T, by T) {
	for i := range list[:cap(list)] {
		list[:cap(list)][i] = by
	}
}

// TestRowAnswersAreNew: what one call answered stays as it is, whatever is done to what another one answered.
func TestRowAnswersAreNew(t *testing.T) {
	r := impl.Row{Key: impl.EarlyKey(7, 2)}
	said := numbered(5)
	first, second := mustPutAll(t, r, said), mustPutAll(t, r, said)
	want := slices.Clone(second)
	overwrite(first, noBox)
	if !slices.Equal(second, want) {
		t.Fatalf("PutAll: now %v", second)
	}
	_, heard := impl.TakeAll(r, second)
	_, again := impl.TakeAll(r, second)
	overwrite(heard, "overwritten")
	if !slices.Equal(again, said) {
		t.Fatalf("TakeAll: now %q", again)
	}
}
