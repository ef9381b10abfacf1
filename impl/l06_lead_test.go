package impl

import (
	"slices"
	"testing"
)

// The order of a map differs from run to run, so that this is repeated.
func TestItemsAreSortedForOutput(t *testing.T) {
	want := []Item{{1, 7, 2}, {2, 0, 1}, {30, 4, 1}, {999, 1, 1}, {1000, 2, 5}}
	for range 50 {
		all := items{}
		for _, it := range want {
			all[it.Key] = it
		}
		if got := all.store(8); got.Epoch != 8 || !slices.Equal(got.Items, want) {
			t.Fatalf("the store is %+v, want the items %+v", got, want)
		}
	}
	if got := (items{}).store(8); got.Epoch != 8 || len(got.Items) != 0 {
		t.Errorf("the store without items is %+v", got)
	}
}

func TestReadStoreReadsAllOrNothing(t *testing.T) {
	all, ok := readStore(Store{Items: []Item{{3, 1, 1}, {5, 0, 2}}})
	if !ok || len(all) != 2 || all[3] != (Item{3, 1, 1}) || all[5] != (Item{5, 0, 2}) {
		t.Errorf("readStore is %v, %v", all, ok)
	}
	all, ok = readStore(Store{Items: []Item{{3, 1, 1}, {5, 0, 0}}})
	if ok || all != nil {
		t.Errorf("readStore of an invalid item is %v, %v", all, ok)
	}
	all, ok = readStore(Store{})
	if !ok || all == nil || len(all) != 0 {
		t.Errorf("readStore of the empty store is %v, %v, want a map to which items can be added", all, ok)
	}
}
