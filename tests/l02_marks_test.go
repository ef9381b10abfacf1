package tests

import (
	"fmt"
	"math"
	"slices"
	"testing"

	"loop.example/g00718/impl"
)

// outside returns integers that are neither a Key nor a Val nor a taint.
func outside() []int { return []int{-1, 10, math.MinInt, math.MaxInt} }

// keyLists returns every strictly increasing list of at most MaxMarks integers
// in 0..9.
func keyLists() [][]int {
	var out [][]int
	for set := range 1 << 10 {
		var list []int
		for key := range 10 {
			if set>>key&1 == 1 {
				list = append(list, key)
			}
		}
		if len(list) <= impl.MaxMarks {
			out = append(out, list)
		}
	}
	return out
}

// labsOf returns a label for each key, with a Val that depends on the key.
func labsOf(keys []int) []impl.Lab {
	var out []impl.Lab
	for _, key := range keys {
		out = append(out, impl.Lab{Key: key, Val: 9 - key})
	}
	return out
}

// changed returns a copy of list with one of its elements replaced.
func changed[T any](list []T, at int, to T) []T {
	out := slices.Clone(list)
	out[at] = to
	return out
}

// invalidKeyLists returns lists of integers that are too long, not strictly
// increasing or not in 0..9 at one place.
func invalidKeyLists() [][]int {
	out := [][]int{
		{0, 1, 2, 3, 4, 5, 6},
		{0, 1, 2, 3, 4, 5, 6, 7, 8, 9},
		make([]int, 1000),
		{3, 3}, {0, 0}, {9, 9}, {3, 1}, {9, 0},
		{1, 2, 2}, {2, 2, 5}, {1, 5, 2}, {5, 1, 2}, {2, 5, 1},
		{0, 1, 2, 3, 4, 4}, {0, 1, 2, 3, 5, 4}, {0, 1, 3, 2, 4, 5},
	}
	for _, n := range outside() {
		for _, list := range [][]int{{4}, {4, 5}, {0, 9}, {0, 1, 2, 3, 4, 5}} {
			for at := range list {
				out = append(out, changed(list, at, n))
			}
		}
	}
	return out
}

// invalidLabs returns label lists with such Keys, and with one Val that is not
// in 0..9.
func invalidLabs() [][]impl.Lab {
	var out [][]impl.Lab
	for _, keys := range invalidKeyLists() {
		var list []impl.Lab
		for at, key := range keys {
			list = append(list, impl.Lab{Key: key, Val: at % 10})
		}
		out = append(out, list)
	}
	for _, n := range outside() {
		for _, keys := range [][]int{{4}, {0, 9}, {0, 1, 2, 3, 4, 5}} {
			for at, key := range keys {
				out = append(out, changed(labsOf(keys), at, impl.Lab{Key: key, Val: n}))
			}
		}
	}
	return out
}

func wantLabs(t *testing.T, what string, got []impl.Lab, ok bool, want []impl.Lab) {
	t.Helper()
	if !ok || !slices.Equal(got, want) {
		t.Errorf("%s: got %v, %v, want %v, true", what, got, ok, want)
	}
}

func wantNoLabs(t *testing.T, what string, got []impl.Lab, ok bool) {
	t.Helper()
	if ok || got != nil {
		t.Errorf("%s: got %v, %v, want nil and false", what, got, ok)
	}
}

func TestMarksExamples(t *testing.T) {
	var list []impl.Lab
	for _, l := range []impl.Lab{{Key: 4, Val: 1}, {Key: 2, Val: 7}, {Key: 4, Val: 3}} {
		longer, ok := impl.LabsPut(list, l)
		if !ok {
			t.Fatalf("LabsPut(%v, %v) is false", list, l)
		}
		list = longer
	}
	wantLabs(t, "LabsPut", list, true, []impl.Lab{{Key: 2, Val: 7}, {Key: 4, Val: 3}})
	if !impl.Tolerates([]int{3}, []int{1, 3}) {
		t.Error("the taint 3 is not tolerated by 1, 3")
	}
	if impl.Tolerates([]int{2, 3}, []int{1, 3}) {
		t.Error("the taints 2, 3 are tolerated by 1, 3")
	}
}

func TestLabsOkOfValid(t *testing.T) {
	if !impl.LabsOk(nil) || !impl.LabsOk([]impl.Lab{}) {
		t.Error("LabsOk rejects the empty list")
	}
	for _, keys := range keyLists() {
		if !impl.LabsOk(labsOf(keys)) {
			t.Errorf("LabsOk(%v) is false", labsOf(keys))
		}
	}
	// The Vals need not be in any order, and each may be at either limit.
	for _, val := range []int{0, 1, 8, 9} {
		list := labsOf([]int{0, 2, 3, 5, 8, 9})
		for at := range list {
			list[at].Val = val
		}
		if !impl.LabsOk(list) {
			t.Errorf("LabsOk(%v) is false", list)
		}
	}
}

func TestLabsOkOfInvalid(t *testing.T) {
	for _, list := range invalidLabs() {
		if impl.LabsOk(list) {
			t.Errorf("LabsOk(%v) is true", list)
		}
	}
}

func TestLabsGetOfEveryKey(t *testing.T) {
	for _, keys := range keyLists() {
		list := labsOf(keys)
		for key := range 10 {
			want, there := 0, slices.Contains(keys, key)
			if there {
				want = 9 - key
			}
			if got, ok := impl.LabsGet(list, key); got != want || ok != there {
				t.Errorf("LabsGet(%v, %d) is %d, %v, want %d, %v", list, key, got, ok, want, there)
			}
		}
	}
	for _, val := range []int{0, 9} {
		if got, ok := impl.LabsGet([]impl.Lab{{Key: 5, Val: val}}, 5); got != val || !ok {
			t.Errorf("LabsGet of the Val %d is %d, %v", val, got, ok)
		}
	}
}

func TestLabsGetOfNothing(t *testing.T) {
	for _, list := range [][]impl.Lab{nil, {}, labsOf([]int{0, 9}), labsOf([]int{0, 1, 2, 7, 8, 9})} {
		for _, key := range append(outside(), 5) {
			if got, ok := impl.LabsGet(list, key); got != 0 || ok {
				t.Errorf("LabsGet(%v, %d) is %d, %v, want 0, false", list, key, got, ok)
			}
		}
	}
	for _, list := range invalidLabs() {
		keys := append(outside(), 0, 1, 2, 3, 4, 5, 6, 7, 8, 9)
		for _, key := range keys {
			if got, ok := impl.LabsGet(list, key); got != 0 || ok {
				t.Errorf("LabsGet(%v, %d) is %d, %v, want 0, false", list, key, got, ok)
			}
		}
	}
}

// Promise 4, first part.
func TestLabsPutIsReturnedAndLeavesTheOthers(t *testing.T) {
	for _, keys := range keyLists() {
		before := labsOf(keys)
		for key := range 10 {
			for _, val := range []int{0, 4, 9} {
				putAndCompare(t, before, impl.Lab{Key: key, Val: val})
			}
		}
	}
}

// putAndCompare puts l and compares what is returned for every key before and
// after.
func putAndCompare(t *testing.T, before []impl.Lab, l impl.Lab) {
	t.Helper()
	_, there := impl.LabsGet(before, l.Key)
	after, ok := impl.LabsPut(before, l)
	if len(before) == impl.MaxMarks && !there {
		wantNoLabs(t, "LabsPut of a new Key into a full list", after, ok)
		return
	}
	length := len(before)
	if !there {
		length++
	}
	if !ok || len(after) != length || !impl.LabsOk(after) {
		t.Errorf("LabsPut(%v, %v) is %v, %v", before, l, after, ok)
	}
	for key := range 10 {
		want, wantOk := impl.LabsGet(before, key)
		if key == l.Key {
			want, wantOk = l.Val, true
		}
		if got, gotOk := impl.LabsGet(after, key); got != want || gotOk != wantOk {
			t.Errorf("after LabsPut(%v, %v), %d has %d, %v, want %d, %v", before, l, key, got, gotOk, want, wantOk)
		}
	}
}

func TestLabsPutPlaces(t *testing.T) {
	list := []impl.Lab{{Key: 2, Val: 1}, {Key: 4, Val: 2}, {Key: 6, Val: 3}}
	for _, c := range []struct {
		what string
		put  impl.Lab
		want []impl.Lab
	}{
		{"at the front", impl.Lab{Key: 0, Val: 9}, []impl.Lab{{Key: 0, Val: 9}, {Key: 2, Val: 1}, {Key: 4, Val: 2}, {Key: 6, Val: 3}}},
		{"in the middle", impl.Lab{Key: 5, Val: 0}, []impl.Lab{{Key: 2, Val: 1}, {Key: 4, Val: 2}, {Key: 5, Val: 0}, {Key: 6, Val: 3}}},
		{"at the end", impl.Lab{Key: 9, Val: 9}, []impl.Lab{{Key: 2, Val: 1}, {Key: 4, Val: 2}, {Key: 6, Val: 3}, {Key: 9, Val: 9}}},
		{"instead of the first", impl.Lab{Key: 2, Val: 0}, []impl.Lab{{Key: 2, Val: 0}, {Key: 4, Val: 2}, {Key: 6, Val: 3}}},
		{"instead of the second", impl.Lab{Key: 4, Val: 7}, []impl.Lab{{Key: 2, Val: 1}, {Key: 4, Val: 7}, {Key: 6, Val: 3}}},
		{"instead of the last", impl.Lab{Key: 6, Val: 9}, []impl.Lab{{Key: 2, Val: 1}, {Key: 4, Val: 2}, {Key: 6, Val: 9}}},
		{"again", impl.Lab{Key: 4, Val: 2}, list},
	} {
		got, ok := impl.LabsPut(list, c.put)
		wantLabs(t, "LabsPut "+c.what, got, ok, c.want)
	}
	for _, empty := range [][]impl.Lab{nil, {}} {
		got, ok := impl.LabsPut(empty, impl.Lab{})
		wantLabs(t, "LabsPut into the empty list", got, ok, []impl.Lab{{}})
	}
}

func TestLabsPutIntoFull(t *testing.T) {
	five := labsOf([]int{1, 2, 4, 6, 8})
	full, ok := impl.LabsPut(five, impl.Lab{Key: 5, Val: 5})
	wantLabs(t, "LabsPut of the last that fits", full, ok, slices.Insert(slices.Clone(five), 3, impl.Lab{Key: 5, Val: 5}))
	for _, key := range []int{0, 3, 7, 9} {
		got, ok := impl.LabsPut(full, impl.Lab{Key: key, Val: 1})
		wantNoLabs(t, "LabsPut of a new Key into a full list", got, ok)
	}
	for at, l := range full {
		l.Val = 9 - l.Val
		got, ok := impl.LabsPut(full, l)
		wantLabs(t, "LabsPut of a Key that is there into a full list", got, ok, changed(full, at, l))
	}
}

func TestLabsPutOfInvalid(t *testing.T) {
	for _, n := range outside() {
		for _, l := range []impl.Lab{{Key: n, Val: 1}, {Key: 4, Val: n}, {Key: 5, Val: n}, {Key: n, Val: n}} {
			for _, list := range [][]impl.Lab{nil, labsOf([]int{2, 4}), labsOf([]int{0, 1, 2, 3, 4, 9})} {
				got, ok := impl.LabsPut(list, l)
				wantNoLabs(t, "LabsPut of an invalid label", got, ok)
			}
			for _, list := range invalidLabs() {
				got, ok := impl.LabsPut(list, l)
				wantNoLabs(t, "LabsPut of an invalid label into an invalid list", got, ok)
			}
		}
	}
	// No label mends an invalid list, also not one that replaces its defect.
	for _, list := range invalidLabs() {
		for key := range 10 {
			got, ok := impl.LabsPut(list, impl.Lab{Key: key, Val: 1})
			wantNoLabs(t, "LabsPut into an invalid list", got, ok)
		}
	}
}

func TestLabsMatchOfEveryPair(t *testing.T) {
	all := keyLists()
	for _, keys := range all {
		labs := labsOf(keys)
		for _, some := range all {
			want := containsAll(keys, some)
			if got := impl.LabsMatch(labs, labsOf(some)); got != want {
				t.Fatalf("LabsMatch(%v, %v) is %v", labs, labsOf(some), got)
			}
		}
	}
}

// containsAll reports whether every element of some is in list.
func containsAll(list []int, some []int) bool {
	return !slices.ContainsFunc(some, func(n int) bool { return !slices.Contains(list, n) })
}

func TestLabsMatchInPart(t *testing.T) {
	labs := []impl.Lab{{Key: 1, Val: 0}, {Key: 3, Val: 5}, {Key: 5, Val: 9}}
	for _, c := range []struct {
		what string
		want []impl.Lab
		ok   bool
	}{
		{"all", labs, true},
		{"none wanted", nil, true},
		{"empty wanted", []impl.Lab{}, true},
		{"the first", []impl.Lab{{Key: 1, Val: 0}}, true},
		{"the middle", []impl.Lab{{Key: 3, Val: 5}}, true},
		{"the last", []impl.Lab{{Key: 5, Val: 9}}, true},
		{"the outer two", []impl.Lab{{Key: 1, Val: 0}, {Key: 5, Val: 9}}, true},
		{"first missing", []impl.Lab{{Key: 0, Val: 0}, {Key: 3, Val: 5}, {Key: 5, Val: 9}}, false},
		{"middle missing", []impl.Lab{{Key: 1, Val: 0}, {Key: 4, Val: 5}, {Key: 5, Val: 9}}, false},
		{"last missing", []impl.Lab{{Key: 1, Val: 0}, {Key: 3, Val: 5}, {Key: 9, Val: 9}}, false},
		{"one more", []impl.Lab{{Key: 1, Val: 0}, {Key: 3, Val: 5}, {Key: 5, Val: 9}, {Key: 6, Val: 0}}, false},
		{"missing with the Val 0", []impl.Lab{{Key: 2, Val: 0}}, false},
		{"another Val of the first", []impl.Lab{{Key: 1, Val: 1}, {Key: 3, Val: 5}, {Key: 5, Val: 9}}, false},
		{"another Val of the middle", []impl.Lab{{Key: 1, Val: 0}, {Key: 3, Val: 0}, {Key: 5, Val: 9}}, false},
		{"another Val of the last", []impl.Lab{{Key: 1, Val: 0}, {Key: 3, Val: 5}, {Key: 5, Val: 8}}, false},
		{"another Val alone", []impl.Lab{{Key: 5, Val: 0}}, false},
		{"the Val of another Key", []impl.Lab{{Key: 3, Val: 9}}, false},
		{"another order", []impl.Lab{{Key: 3, Val: 5}, {Key: 1, Val: 0}, {Key: 5, Val: 9}}, false},
		{"a label twice", []impl.Lab{{Key: 1, Val: 0}, {Key: 1, Val: 0}}, false},
	} {
		if got := impl.LabsMatch(labs, c.want); got != c.ok {
			t.Errorf("LabsMatch of %s is %v", c.what, got)
		}
	}
	if impl.LabsMatch([]impl.Lab{{Key: 3, Val: 5}, {Key: 1, Val: 0}}, []impl.Lab{{Key: 1, Val: 0}}) {
		t.Error("LabsMatch accepts labs in another order")
	}
	if impl.LabsMatch(nil, []impl.Lab{{}}) || !impl.LabsMatch(nil, nil) || !impl.LabsMatch([]impl.Lab{}, nil) || !impl.LabsMatch(nil, []impl.Lab{}) {
		t.Error("LabsMatch of the empty list is wrong")
	}
}

// Every Val of every Key against every other: only the same one matches.
func TestLabsMatchComparesVals(t *testing.T) {
	for key := range 10 {
		for have := range 10 {
			for want := range 10 {
				got := impl.LabsMatch([]impl.Lab{{Key: key, Val: have}}, []impl.Lab{{Key: key, Val: want}})
				if got != (have == want) {
					t.Errorf("of the Key %d the Val %d matches %d: %v", key, have, want, got)
				}
			}
		}
	}
}

func TestLabsMatchOfInvalid(t *testing.T) {
	valid := [][]impl.Lab{nil, labsOf([]int{4}), labsOf([]int{0, 1, 2, 3, 4, 5})}
	for _, bad := range invalidLabs() {
		for _, other := range append(valid, bad) {
			if impl.LabsMatch(bad, other) || impl.LabsMatch(other, bad) {
				t.Errorf("LabsMatch accepts %v with %v", bad, other)
			}
		}
	}
}

func TestTaintsOk(t *testing.T) {
	if !impl.TaintsOk(nil) || !impl.TaintsOk([]int{}) {
		t.Error("TaintsOk rejects the empty list")
	}
	for _, list := range keyLists() {
		if !impl.TaintsOk(list) {
			t.Errorf("TaintsOk(%v) is false", list)
		}
	}
	for _, list := range invalidKeyLists() {
		if impl.TaintsOk(list) {
			t.Errorf("TaintsOk(%v) is true", list)
		}
	}
}

func TestToleratesEveryPair(t *testing.T) {
	all := keyLists()
	for _, taints := range all {
		for _, tols := range all {
			want := containsAll(tols, taints)
			if got := impl.Tolerates(taints, tols); got != want {
				t.Fatalf("Tolerates(%v, %v) is %v", taints, tols, got)
			}
		}
	}
}

func TestToleratesInPart(t *testing.T) {
	tols := []int{1, 3, 5, 9}
	for _, taints := range [][]int{nil, {}, {1}, {9}, {3, 5}, {1, 9}, {1, 3, 5, 9}} {
		if !impl.Tolerates(taints, tols) {
			t.Errorf("Tolerates(%v, %v) is false", taints, tols)
		}
	}
	for _, taints := range [][]int{{0}, {4}, {8}, {0, 1}, {1, 2}, {3, 4, 5}, {8, 9}, {1, 3, 5, 8, 9}, {3, 1}, {9, 5}, {3, 3}} {
		if impl.Tolerates(taints, tols) {
			t.Errorf("Tolerates(%v, %v) is true", taints, tols)
		}
	}
	if impl.Tolerates([]int{0}, nil) || impl.Tolerates([]int{3}, []int{3, 1}) || !impl.Tolerates(nil, nil) || !impl.Tolerates([]int{}, []int{}) {
		t.Error("Tolerates of an empty or unordered list is wrong")
	}
}

func TestToleratesOfInvalid(t *testing.T) {
	valid := [][]int{nil, {4}, {0, 1, 2, 3, 4, 5}}
	for _, bad := range invalidKeyLists() {
		for _, other := range append(valid, bad) {
			if impl.Tolerates(bad, other) || impl.Tolerates(other, bad) {
				t.Errorf("Tolerates accepts %v with %v", bad, other)
			}
		}
	}
}

// Promise 4, second part. One toleration more at a time leads from every valid
// list to every longer one.
func TestMoreTolerationsNeverTolerateLess(t *testing.T) {
	all := keyLists()
	for _, taints := range all {
		for _, fewer := range all {
			if !impl.Tolerates(taints, fewer) || len(fewer) == impl.MaxMarks {
				continue
			}
			for extra := range 10 {
				at, there := slices.BinarySearch(fewer, extra)
				if there {
					continue
				}
				more := slices.Insert(slices.Clone(fewer), at, extra)
				if !impl.Tolerates(taints, more) {
					t.Fatalf("%v tolerate %v, but %v do not", fewer, taints, more)
				}
			}
		}
	}
}

// Behind the length of each list is what would make it invalid or match.
func TestMarksReadOnlyTheList(t *testing.T) {
	labs := []impl.Lab{{Key: 2, Val: 1}, {Key: 4, Val: 2}, {Key: 6, Val: 3}, {Key: -1, Val: 10}}
	if !impl.LabsOk(labs[:3]) || !impl.LabsMatch(labs[:2], labs[:1]) || impl.LabsMatch(labs[:2], labs[:3]) {
		t.Error("labels behind the list are read")
	}
	if got, ok := impl.LabsGet(labs[:2], 6); got != 0 || ok {
		t.Errorf("LabsGet behind the list is %d, %v", got, ok)
	}
	got, ok := impl.LabsPut(labs[:1], impl.Lab{Key: 9, Val: 9})
	wantLabs(t, "LabsPut", got, ok, []impl.Lab{{Key: 2, Val: 1}, {Key: 9, Val: 9}})
	taints := []int{1, 3, 5, -1}
	if !impl.TaintsOk(taints[:3]) || !impl.Tolerates(taints[:2], taints[:3]) || impl.Tolerates(taints[:3], taints[:2]) {
		t.Error("taints behind the list are read")
	}
}

func TestMarksChangeNoArgument(t *testing.T) {
	lists := append(invalidLabs(), nil, labsOf([]int{4}), labsOf([]int{1, 3, 5}), labsOf([]int{0, 1, 2, 3, 4, 5}))
	for _, list := range lists {
		// The spare capacity must stay as it is, too.
		whole := append(slices.Clone(list), impl.Lab{Key: 7, Val: 7}, impl.Lab{Key: 8, Val: 8})
		want := fmt.Sprint(whole)
		given := whole[:len(list)]
		impl.LabsOk(given)
		impl.LabsMatch(given, given)
		for _, n := range append(outside(), 0, 4, 9) {
			impl.LabsGet(given, n)
			impl.LabsPut(given, impl.Lab{Key: n, Val: 6})
			impl.LabsPut(given, impl.Lab{Key: 4, Val: n})
		}
		if got := fmt.Sprint(whole); got != want {
			t.Errorf("the labels %s became %s", want, got)
		}
	}
	for _, list := range append(invalidKeyLists(), nil, []int{4}, []int{1, 3, 5}) {
		whole := append(slices.Clone(list), 7, 8)
		want := fmt.Sprint(whole)
		given := whole[:len(list)]
		impl.TaintsOk(given)
		impl.Tolerates(given, given)
		impl.Tolerates(given, []int{1, 4})
		impl.Tolerates([]int{1}, given)
		if got := fmt.Sprint(whole); got != want {
			t.Errorf("the taints %s became %s", want, got)
		}
	}
}

func TestLabsPutSharesNoMemory(t *testing.T) {
	for _, l := range []impl.Lab{{Key: 0, Val: 1}, {Key: 4, Val: 1}, {Key: 4, Val: 5}, {Key: 9, Val: 9}} {
		whole := labsOf([]int{2, 4, 6, 7, 8})
		given := whole[:3]
		got, ok := impl.LabsPut(given, l)
		other, _ := impl.LabsPut(given, l)
		if !ok {
			t.Fatalf("LabsPut(%v, %v) is false", given, l)
		}
		result := slices.Clone(got)
		overwrite(got)
		if !slices.Equal(whole, labsOf([]int{2, 4, 6, 7, 8})) {
			t.Errorf("writing to the result of LabsPut(%v) changed the argument to %v", l, whole)
		}
		wantLabs(t, "LabsPut after writing to another result", other, true, result)
		overwrite(whole)
		wantLabs(t, "LabsPut after writing to the argument", other, true, result)
	}
}

// overwrite fills a list and the spare capacity behind it.
func overwrite(list []impl.Lab) {
	list = list[:cap(list)]
	for at := range list {
		list[at] = impl.Lab{Key: -7, Val: -7}
	}
}
