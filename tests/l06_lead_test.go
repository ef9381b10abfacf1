package tests

import (
	"fmt"
	"math"
	"reflect"
	"slices"
	"testing"

	"loop.example/g00718/impl"
)

const longest = 1000

const lastKey = 1000

func leaseOf(who int, epoch int, till int) impl.Lease {
	return impl.Lease{Who: who, Epoch: epoch, Till: till}
}

// bid is a call of LeaseTry.
type bid struct {
	lease impl.Lease
	who   int
	now   int
	span  int
}

func (b bid) try() (impl.Lease, int) { return impl.LeaseTry(b.lease, b.who, b.now, b.span) }

func (b bid) wantGot(t *testing.T, epoch int) {
	t.Helper()
	want := leaseOf(b.who, epoch, b.now+b.span)
	if got, code := b.try(); got != want || code != impl.LeadFine {
		t.Errorf("LeaseTry of %+v is %+v with the code %d, want %+v", b, got, code, want)
	}
}

func (b bid) wantRejected(t *testing.T, want int) {
	t.Helper()
	if got, code := b.try(); got != (impl.Lease{}) || code != want {
		t.Errorf("LeaseTry of %+v is %+v with the code %d, want the zero value and the code %d", b, got, code, want)
	}
}

func TestLeaseExample(t *testing.T) {
	bid{impl.Lease{}, 2, 0, 10}.wantGot(t, 1)
	got, _ := bid{impl.Lease{}, 2, 0, 10}.try()
	bid{got, 1, 9, 10}.wantRejected(t, impl.LeadHeld)
	bid{got, 1, 10, 10}.wantGot(t, 2)
	got, _ = bid{got, 1, 10, 10}.try()
	if got != leaseOf(1, 2, 20) {
		t.Errorf("the lease of replica 1 is %+v", got)
	}
}

// isLease is LeaseOk as the chapter states it.
func isLease(l impl.Lease) bool {
	if l.Who < 0 || l.Who > impl.MaxReplicas || l.Epoch < 0 || l.Epoch > impl.MaxEpoch || l.Till < 0 || l.Till > 2*impl.MaxTime {
		return false
	}
	free := l.Who == 0 && l.Epoch == 0 && l.Till == 0
	return free || l.Who != 0 && l.Epoch != 0
}

func whosAtTheBounds() []int {
	return []int{math.MinInt, -1, 0, 1, 2, impl.MaxReplicas, impl.MaxReplicas + 1, math.MaxInt}
}

func epochsAtTheBounds() []int {
	return []int{math.MinInt, -1, 0, 1, 7, impl.MaxEpoch - 1, impl.MaxEpoch, impl.MaxEpoch + 1, math.MaxInt}
}

// leasesAtTheBounds returns valid leases and others.
func leasesAtTheBounds() []impl.Lease {
	var out []impl.Lease
	for _, who := range whosAtTheBounds() {
		for _, epoch := range epochsAtTheBounds() {
			for _, till := range []int{math.MinInt, -1, 0, 1, 50, impl.MaxTime, impl.MaxTime + 1, 2 * impl.MaxTime, 2*impl.MaxTime + 1, math.MaxInt} {
				out = append(out, leaseOf(who, epoch, till))
			}
		}
	}
	return out
}

func TestLeaseOk(t *testing.T) {
	for _, l := range []impl.Lease{{}, leaseOf(1, 1, 0), leaseOf(1, 1, 1), leaseOf(impl.MaxReplicas, impl.MaxEpoch, 2*impl.MaxTime)} {
		if !impl.LeaseOk(l) {
			t.Errorf("LeaseOk(%+v) is false", l)
		}
	}
	invalid := []impl.Lease{
		leaseOf(0, 1, 1), leaseOf(1, 0, 1), leaseOf(0, 0, 1), leaseOf(1, 0, 0), leaseOf(0, 1, 0),
		leaseOf(-1, 1, 1), leaseOf(impl.MaxReplicas+1, 1, 1),
		leaseOf(1, -1, 1), leaseOf(1, impl.MaxEpoch+1, 1),
		leaseOf(1, 1, -1), leaseOf(1, 1, 2*impl.MaxTime+1),
	}
	for _, l := range invalid {
		if impl.LeaseOk(l) {
			t.Errorf("LeaseOk(%+v) is true", l)
		}
	}
	for _, l := range leasesAtTheBounds() {
		if impl.LeaseOk(l) != isLease(l) {
			t.Errorf("LeaseOk(%+v) is %v", l, impl.LeaseOk(l))
		}
	}
}

func TestLeaseTryWhenItExpires(t *testing.T) {
	l := leaseOf(3, 7, 50)
	for _, now := range []int{0, 1, 49} {
		bid{l, 3, now, 10}.wantGot(t, 7)
		bid{l, 2, now, 10}.wantRejected(t, impl.LeadHeld)
		bid{l, 4, now, 10}.wantRejected(t, impl.LeadHeld)
	}
	for _, now := range []int{50, 51, impl.MaxTime} {
		for who := 1; who <= impl.MaxReplicas; who++ {
			bid{l, who, now, 10}.wantGot(t, 8)
		}
	}
	// A lease that was given a Till of 0 has expired at once.
	for who := 1; who <= impl.MaxReplicas; who++ {
		bid{leaseOf(3, 7, 0), who, 0, 10}.wantGot(t, 8)
	}
}

// The new Till counts from now, even where the old one was later.
func TestLeaseTryMayShortenTheLease(t *testing.T) {
	bid{leaseOf(3, 7, 500), 3, 100, 1}.wantGot(t, 7)
	bid{leaseOf(3, 7, 2*impl.MaxTime), 3, 0, longest}.wantGot(t, 7)
	bid{leaseOf(3, 7, 2*impl.MaxTime), 3, impl.MaxTime, 1}.wantGot(t, 7)
	bid{leaseOf(3, 7, 2*impl.MaxTime), 1, impl.MaxTime, 1}.wantRejected(t, impl.LeadHeld)
	bid{leaseOf(3, 7, 2*impl.MaxTime+1), 3, impl.MaxTime, 1}.wantRejected(t, impl.LeadForm)
}

func TestLeaseTryOfAFreeLease(t *testing.T) {
	for who := 1; who <= impl.MaxReplicas; who++ {
		for _, now := range []int{0, 1, impl.MaxTime} {
			bid{impl.Lease{}, who, now, longest}.wantGot(t, 1)
		}
	}
}

func TestLeaseTryLimitsOfTheArguments(t *testing.T) {
	for _, l := range []impl.Lease{{}, leaseOf(1, 5, 20)} {
		for _, who := range []int{1, impl.MaxReplicas} {
			bid{l, who, impl.MaxTime, 1}.wantGot(t, l.Epoch+1)
			bid{l, who, impl.MaxTime, longest}.wantGot(t, l.Epoch+1)
		}
		for _, who := range []int{math.MinInt, -1, 0, impl.MaxReplicas + 1, math.MaxInt} {
			bid{l, who, 30, 10}.wantRejected(t, impl.LeadForm)
		}
		for _, now := range []int{math.MinInt, -1, impl.MaxTime + 1, math.MaxInt} {
			bid{l, 1, now, 10}.wantRejected(t, impl.LeadForm)
		}
		for _, span := range []int{math.MinInt, -1, 0, longest + 1, math.MaxInt} {
			bid{l, 1, 30, span}.wantRejected(t, impl.LeadForm)
			bid{l, 1, 0, span}.wantRejected(t, impl.LeadForm)
		}
	}
	bid{impl.Lease{}, 1, 0, 1}.wantGot(t, 1)
	bid{leaseOf(1, 5, 20), 1, 0, longest}.wantGot(t, 5)
}

func TestLeaseTryAtTheLastEpoch(t *testing.T) {
	bid{leaseOf(1, impl.MaxEpoch-1, 20), 1, 19, 10}.wantGot(t, impl.MaxEpoch-1)
	bid{leaseOf(1, impl.MaxEpoch-1, 20), 1, 20, 10}.wantGot(t, impl.MaxEpoch)
	bid{leaseOf(1, impl.MaxEpoch-1, 20), 2, 20, 10}.wantGot(t, impl.MaxEpoch)
	bid{leaseOf(1, impl.MaxEpoch, 20), 1, 19, 10}.wantGot(t, impl.MaxEpoch)
	bid{leaseOf(1, impl.MaxEpoch, 20), 1, 20, 10}.wantRejected(t, impl.LeadFull)
	bid{leaseOf(1, impl.MaxEpoch, 20), 2, 20, 10}.wantRejected(t, impl.LeadFull)
	bid{leaseOf(1, impl.MaxEpoch, 0), 2, 0, 10}.wantRejected(t, impl.LeadFull)
}

func TestOrderOfErrorsOfLeaseTry(t *testing.T) {
	held, full := leaseOf(1, 5, 20), leaseOf(1, impl.MaxEpoch, 20)
	// Each is rejected for one reason when the others are as they should be.
	bid{held, 2, 19, 10}.wantRejected(t, impl.LeadHeld)
	bid{full, 2, 20, 10}.wantRejected(t, impl.LeadFull)
	// LeadForm and LeadHeld.
	for _, l := range []impl.Lease{leaseOf(5, 5, 20), leaseOf(-1, 5, 20), leaseOf(1, 0, 20), leaseOf(0, 5, 20), leaseOf(1, -1, 20), leaseOf(1, 5, 2*impl.MaxTime+1)} {
		bid{l, 2, 19, 10}.wantRejected(t, impl.LeadForm)
	}
	for _, b := range []bid{{held, 0, 19, 10}, {held, 5, 19, 10}, {held, 2, -1, 10}, {held, 2, 19, 0}, {held, 2, 19, longest + 1}, {leaseOf(1, 5, 2*impl.MaxTime), 2, impl.MaxTime + 1, 10}} {
		b.wantRejected(t, impl.LeadForm)
	}
	// LeadForm and LeadFull.
	for _, l := range []impl.Lease{leaseOf(5, impl.MaxEpoch, 20), leaseOf(0, impl.MaxEpoch, 20), leaseOf(1, impl.MaxEpoch+1, 20), leaseOf(1, impl.MaxEpoch, -1)} {
		bid{l, 2, 20, 10}.wantRejected(t, impl.LeadForm)
	}
	for _, b := range []bid{{full, 0, 20, 10}, {full, 5, 20, 10}, {full, 2, impl.MaxTime + 1, 10}, {full, 2, 20, 0}, {full, 2, 20, longest + 1}} {
		b.wantRejected(t, impl.LeadForm)
	}
	// LeadHeld and LeadFull: another replica holds the last epoch.
	for _, now := range []int{0, 19} {
		bid{full, 2, now, 10}.wantRejected(t, impl.LeadHeld)
	}
}

func TestLeaseHolds(t *testing.T) {
	want := func(l impl.Lease, who int, epoch int, now int, want bool) {
		t.Helper()
		if impl.LeaseHolds(l, who, epoch, now) != want {
			t.Errorf("LeaseHolds(%+v, %d, %d, %d) is not %v", l, who, epoch, now, want)
		}
	}
	l := leaseOf(3, 7, 50)
	for _, now := range []int{math.MinInt, -1, 0, 49} {
		want(l, 3, 7, now, true)
	}
	for _, now := range []int{50, 51, math.MaxInt} {
		want(l, 3, 7, now, false)
	}
	for _, who := range []int{math.MinInt, -1, 0, 2, 4, 5, math.MaxInt} {
		want(l, who, 7, 49, false)
	}
	for _, epoch := range []int{math.MinInt, -1, 0, 6, 8, math.MaxInt} {
		want(l, 3, epoch, 49, false)
	}
	want(leaseOf(impl.MaxReplicas, impl.MaxEpoch, 2*impl.MaxTime), impl.MaxReplicas, impl.MaxEpoch, 2*impl.MaxTime-1, true)
	want(leaseOf(1, 1, 0), 1, 1, -1, true)
	want(leaseOf(1, 1, 0), 1, 1, 0, false)
	// Nobody holds a free lease, not even before the time 0.
	want(impl.Lease{}, 0, 0, -1, false)
	want(impl.Lease{}, 1, 0, -1, false)
	want(impl.Lease{}, 1, 1, -1, false)
	for _, l := range leasesAtTheBounds() {
		for _, now := range []int{math.MinInt, -1, 0, l.Till} {
			want(l, l.Who, l.Epoch, now, isLease(l) && l.Epoch != 0 && now < l.Till)
		}
	}
}

func itemOf(key int, val int, ver int) impl.Item { return impl.Item{Key: key, Val: val, Ver: ver} }

// storeOf sorts nothing, so that it also makes stores that are not valid.
func storeOf(epoch int, items ...impl.Item) impl.Store {
	return impl.Store{Epoch: epoch, Items: items}
}

// fewItems has room before, between and behind its Keys.
func fewItems() []impl.Item {
	return []impl.Item{itemOf(3, 30, 1), itemOf(5, 0, 2), itemOf(500, most, most-1), itemOf(900, 1, most)}
}

// manyItems has the Keys 10, 20 and so on.
func manyItems(number int) []impl.Item {
	var out []impl.Item
	for at := range number {
		out = append(out, itemOf(10*(at+1), at, at+1))
	}
	return out
}

func sameStore(a impl.Store, b impl.Store) bool {
	return a.Epoch == b.Epoch && slices.Equal(a.Items, b.Items)
}

func wantStore(t *testing.T, what string, got impl.Store, code int, want impl.Store) {
	t.Helper()
	if code != impl.LeadFine || !sameStore(got, want) {
		t.Errorf("%s: got %+v with the code %d, want %+v", what, got, code, want)
	}
	if !impl.StoreOk(got) {
		t.Errorf("%s: %+v is not valid", what, got)
	}
}

func wantNoStore(t *testing.T, what string, got impl.Store, code int, want int) {
	t.Helper()
	if code != want || !sameStore(got, impl.Store{}) {
		t.Errorf("%s: got %+v with the code %d, want the zero value and the code %d", what, got, code, want)
	}
}

func wantPut(t *testing.T, s impl.Store, epoch int, it impl.Item, want impl.Store) {
	t.Helper()
	got, code := impl.StorePut(s, epoch, it)
	wantStore(t, fmt.Sprintf("StorePut of %+v with the epoch %d into %+v", it, epoch, s), got, code, want)
}

func wantNotPut(t *testing.T, s impl.Store, epoch int, it impl.Item, want int) {
	t.Helper()
	got, code := impl.StorePut(s, epoch, it)
	wantNoStore(t, fmt.Sprintf("StorePut of %+v with the epoch %d into %+v", it, epoch, s), got, code, want)
}

func wantDropped(t *testing.T, s impl.Store, epoch int, key int, ver int, want impl.Store) {
	t.Helper()
	got, code := impl.StoreDrop(s, epoch, key, ver)
	wantStore(t, fmt.Sprintf("StoreDrop of %d, %d with the epoch %d from %+v", key, ver, epoch, s), got, code, want)
}

func wantNotDropped(t *testing.T, s impl.Store, epoch int, key int, ver int, want int) {
	t.Helper()
	got, code := impl.StoreDrop(s, epoch, key, ver)
	wantNoStore(t, fmt.Sprintf("StoreDrop of %d, %d with the epoch %d from %+v", key, ver, epoch, s), got, code, want)
}

func validStores() []impl.Store {
	return []impl.Store{
		{}, {Epoch: 1}, {Epoch: impl.MaxEpoch}, {Items: []impl.Item{}},
		storeOf(0, itemOf(1, 0, 1)), storeOf(0, itemOf(lastKey, most, most)), storeOf(7, itemOf(1, 0, 1), itemOf(2, 0, 1)),
		storeOf(7, fewItems()...),
		storeOf(7, manyItems(impl.MaxItems-1)...), storeOf(impl.MaxEpoch, manyItems(impl.MaxItems)...),
	}
}

// invalidItems differ from an item that can be put in one field.
func invalidItems(good impl.Item) []impl.Item {
	var out []impl.Item
	for _, key := range []int{math.MinInt, -1, 0, lastKey + 1, math.MaxInt} {
		out = append(out, itemOf(key, good.Val, good.Ver))
	}
	for _, amount := range []int{math.MinInt, -1, most + 1, math.MaxInt} {
		out = append(out, itemOf(good.Key, amount, good.Ver), itemOf(good.Key, good.Val, amount))
	}
	return out
}

// invalidStores returns stores of the epoch 7 with one fault each, and some with
// another epoch that is the fault.
func invalidStores() []impl.Store {
	few := fewItems()
	var out []impl.Store
	for _, epoch := range []int{math.MinInt, -1, impl.MaxEpoch + 1, math.MaxInt} {
		out = append(out, storeOf(epoch), storeOf(epoch, few...))
	}
	lists := [][]impl.Item{
		manyItems(impl.MaxItems + 1),
		make([]impl.Item, 1), make([]impl.Item, 1000),
		{few[0], few[0]}, {few[0], itemOf(3, 31, 2)}, {few[0], few[1], few[2], itemOf(500, 1, 1)},
		{few[1], few[0]}, {few[0], few[2], few[1], few[3]}, {few[0], few[1], few[3], few[2]}, {few[0], few[1], few[0]},
	}
	for at := range few {
		lists = append(lists, exchanged(few, at, func(it *impl.Item) { it.Ver = 0 }))
		for _, it := range invalidItems(few[at]) {
			lists = append(lists, changed(few, at, it), []impl.Item{it})
		}
	}
	for _, list := range lists {
		out = append(out, storeOf(7, list...))
	}
	return out
}

// wantValidity expects a function of that name to accept the valid values only.
func wantValidity[T any](t *testing.T, name string, accepts func(T) bool, valid []T, invalid []T) {
	t.Helper()
	for _, v := range valid {
		if !accepts(v) {
			t.Errorf("%s(%+v) is false", name, v)
		}
	}
	for _, v := range invalid {
		if accepts(v) {
			t.Errorf("%s(%+v) is true", name, v)
		}
	}
}

func TestStoreOk(t *testing.T) {
	wantValidity(t, "StoreOk", impl.StoreOk, validStores(), invalidStores())
	// Each limit alone, in the only item.
	for _, key := range []int{1, 2, lastKey - 1, lastKey} {
		for _, val := range []int{0, 1, most} {
			for _, ver := range []int{1, 2, most} {
				if s := storeOf(0, itemOf(key, val, ver)); !impl.StoreOk(s) {
					t.Errorf("StoreOk(%+v) is false", s)
				}
			}
		}
	}
}

func TestStoreGet(t *testing.T) {
	for _, s := range validStores() {
		want := map[int]impl.Item{}
		for _, it := range s.Items {
			want[it.Key] = it
		}
		keys := []int{math.MinInt, -1, math.MaxInt}
		for key := range lastKey + 2 {
			keys = append(keys, key)
		}
		for _, key := range keys {
			it, ok := impl.StoreGet(s, key)
			if _, exists := want[key]; ok != exists || it != want[key] {
				t.Errorf("StoreGet of %d from %+v is %+v, %v", key, s, it, ok)
			}
		}
	}
	for _, s := range invalidStores() {
		for _, it := range s.Items {
			if got, ok := impl.StoreGet(s, it.Key); ok || got != (impl.Item{}) {
				t.Errorf("StoreGet of %d from %+v is %+v, %v", it.Key, s, got, ok)
			}
		}
		if got, ok := impl.StoreGet(s, 3); ok || got != (impl.Item{}) {
			t.Errorf("StoreGet of 3 from %+v is %+v, %v", s, got, ok)
		}
	}
}

func TestStorePutPlaces(t *testing.T) {
	few := fewItems()
	s := storeOf(7, few...)
	for at, key := range []int{1, 4, 6, 501, 901} {
		wantPut(t, s, 7, itemOf(key, 9, 0), storeOf(7, slices.Insert(slices.Clone(few), at, itemOf(key, 9, 1))...))
	}
	wantPut(t, s, 7, itemOf(2, 0, 0), storeOf(7, append([]impl.Item{itemOf(2, 0, 1)}, few...)...))
	wantPut(t, s, 7, itemOf(lastKey, most, 0), storeOf(7, append(slices.Clone(few), itemOf(lastKey, most, 1))...))
	for at, it := range few[:3] {
		wantPut(t, s, 7, itemOf(it.Key, 9, it.Ver), storeOf(7, changed(few, at, itemOf(it.Key, 9, it.Ver+1))...))
	}
	wantPut(t, impl.Store{}, 1, itemOf(1, 0, 0), storeOf(1, itemOf(1, 0, 1)))
	wantPut(t, storeOf(0, itemOf(5, 7, 1)), 1, itemOf(5, 7, 1), storeOf(1, itemOf(5, 7, 2)))
}

func TestStorePutWithAnotherVer(t *testing.T) {
	s := storeOf(7, fewItems()...)
	for _, it := range s.Items {
		for _, ver := range []int{0, 1, 2, it.Ver - 1, it.Ver + 1, most - 1, most} {
			if ver != it.Ver && ver <= most {
				wantNotPut(t, s, 7, itemOf(it.Key, 9, ver), impl.LeadClash)
			}
		}
	}
	for _, ver := range []int{1, 2, most - 1, most} {
		wantNotPut(t, s, 7, itemOf(4, 9, ver), impl.LeadClash)
		wantNotPut(t, impl.Store{}, 1, itemOf(4, 9, ver), impl.LeadClash)
	}
}

func TestStorePutUpToTheLastVer(t *testing.T) {
	before, last := storeOf(7, itemOf(5, 1, most-1)), storeOf(7, itemOf(5, 2, most))
	wantPut(t, before, 7, itemOf(5, 2, most-1), last)
	wantNotPut(t, last, 7, itemOf(5, 3, most), impl.LeadFull)
	wantNotPut(t, last, 7, itemOf(5, 3, most-1), impl.LeadClash)
}

func TestStorePutIntoFull(t *testing.T) {
	almost, full := manyItems(impl.MaxItems-1), manyItems(impl.MaxItems)
	wantPut(t, storeOf(7, almost...), 7, itemOf(lastKey, 3, 0), storeOf(7, append(slices.Clone(almost), itemOf(lastKey, 3, 1))...))
	wantPut(t, storeOf(7, almost...), 7, itemOf(1, 3, 0), storeOf(7, append([]impl.Item{itemOf(1, 3, 1)}, almost...)...))
	for _, key := range []int{1, 15, lastKey} {
		wantNotPut(t, storeOf(7, full...), 7, itemOf(key, 3, 0), impl.LeadFull)
	}
	for at, it := range full {
		wantPut(t, storeOf(7, full...), 7, itemOf(it.Key, 3, it.Ver), storeOf(7, changed(full, at, itemOf(it.Key, 3, it.Ver+1))...))
	}
}

func TestStorePutOfInvalid(t *testing.T) {
	few := fewItems()
	for _, it := range append(invalidItems(few[0]), invalidItems(itemOf(4, 0, 0))...) {
		wantNotPut(t, storeOf(7, few...), 7, it, impl.LeadForm)
		wantNotPut(t, impl.Store{}, 7, it, impl.LeadForm)
	}
	for _, s := range invalidStores() {
		wantNotPut(t, s, 7, itemOf(4, 1, 0), impl.LeadForm)
		wantNotPut(t, s, impl.MaxEpoch, itemOf(4, 1, 0), impl.LeadForm)
		wantNotPut(t, s, 7, few[0], impl.LeadForm)
	}
}

func TestStoreDrop(t *testing.T) {
	few := fewItems()
	s := storeOf(7, few...)
	for at, it := range few {
		wantDropped(t, s, 7, it.Key, it.Ver, storeOf(7, slices.Delete(slices.Clone(few), at, at+1)...))
		for _, ver := range []int{math.MinInt, -1, 0, it.Ver - 1, it.Ver + 1, most + 1, math.MaxInt} {
			wantNotDropped(t, s, 7, it.Key, ver, impl.LeadClash)
		}
	}
	for _, key := range []int{math.MinInt, -1, 0, 1, 2, 4, 6, 499, 501, 899, 901, lastKey, lastKey + 1, math.MaxInt} {
		for _, ver := range []int{-1, 0, 1, most} {
			wantNotDropped(t, s, 7, key, ver, impl.LeadNone)
			wantNotDropped(t, impl.Store{}, 7, key, ver, impl.LeadNone)
		}
	}
	full := manyItems(impl.MaxItems)
	wantDropped(t, storeOf(7, full...), 7, 10, 1, storeOf(7, full[1:]...))
	wantDropped(t, storeOf(7, itemOf(3, 1, 1)), 7, 3, 1, storeOf(7))
	wantDropped(t, storeOf(7, itemOf(1, 0, most)), 7, 1, most, storeOf(7))
	wantDropped(t, storeOf(7, itemOf(lastKey, 0, 1)), 7, lastKey, 1, storeOf(7))
	for _, s := range invalidStores() {
		wantNotDropped(t, s, 7, 3, 1, impl.LeadForm)
		wantNotDropped(t, s, impl.MaxEpoch, 3, 1, impl.LeadForm)
		wantNotDropped(t, s, 7, 4, 0, impl.LeadForm)
	}
}

func TestStoreEpochs(t *testing.T) {
	few := fewItems()
	for _, kept := range []int{0, 1, 2, 7, impl.MaxEpoch - 1, impl.MaxEpoch} {
		s := storeOf(kept, few...)
		for _, epoch := range append(epochsAtTheBounds(), kept-1, kept, kept+1) {
			code := impl.LeadFine
			if epoch < kept {
				code = impl.LeadOld
			}
			if epoch < 1 || epoch > impl.MaxEpoch {
				code = impl.LeadForm
			}
			if code != impl.LeadFine {
				wantNotPut(t, s, epoch, itemOf(3, 9, 1), code)
				wantNotDropped(t, s, epoch, 3, 1, code)
				continue
			}
			wantPut(t, s, epoch, itemOf(3, 9, 1), storeOf(epoch, changed(few, 0, itemOf(3, 9, 2))...))
			wantDropped(t, s, epoch, 3, 1, storeOf(epoch, few[1:]...))
		}
	}
}

// A put or a drop that is rejected for its Ver, its Key or the number of items
// is first rejected for an old epoch, and before that for its form.
func TestOrderOfErrorsOfStorePut(t *testing.T) {
	few, full := storeOf(7, fewItems()...), storeOf(7, manyItems(impl.MaxItems)...)
	last := few.Items[3]
	clashes := []impl.Item{itemOf(3, 9, 0), itemOf(3, 9, 2), itemOf(4, 9, 1)}
	// LeadClash and LeadFull, for both reasons of LeadFull.
	wantNotPut(t, few, 7, itemOf(3, 9, most), impl.LeadClash)
	wantNotPut(t, few, 7, itemOf(4, 9, most), impl.LeadClash)
	wantNotPut(t, full, 7, itemOf(4, 9, 1), impl.LeadClash)
	wantNotPut(t, full, 7, itemOf(4, 9, most), impl.LeadClash)
	wantNotPut(t, full, 7, itemOf(10, 9, most), impl.LeadClash)
	// LeadOld with LeadClash and with LeadFull.
	for _, it := range append(clashes, last) {
		wantNotPut(t, few, 6, it, impl.LeadOld)
		wantNotPut(t, few, 1, it, impl.LeadOld)
	}
	wantNotPut(t, full, 6, itemOf(4, 9, 0), impl.LeadOld)
	wantNotPut(t, full, 6, itemOf(4, 9, 1), impl.LeadOld)
	// LeadForm with each of the others.
	for _, epoch := range []int{-1, 0, impl.MaxEpoch + 1} {
		for _, it := range append(clashes, last) {
			wantNotPut(t, few, epoch, it, impl.LeadForm)
		}
		wantNotPut(t, full, epoch, itemOf(4, 9, 0), impl.LeadForm)
	}
	for _, it := range append(invalidItems(clashes[0]), invalidItems(last)...) {
		wantNotPut(t, few, 7, it, impl.LeadForm)
		wantNotPut(t, few, 6, it, impl.LeadForm)
		wantNotPut(t, full, 7, it, impl.LeadForm)
		wantNotPut(t, full, 6, it, impl.LeadForm)
	}
	for _, s := range invalidStores() {
		wantNotPut(t, s, 6, itemOf(3, 9, 1), impl.LeadForm)
		wantNotPut(t, s, 7, itemOf(3, 9, 8), impl.LeadForm)
		wantNotPut(t, s, 7, last, impl.LeadForm)
	}
	broken := storeOf(7, append(manyItems(impl.MaxItems-1), itemOf(1, 1, 1))...)
	wantNotPut(t, broken, 7, itemOf(4, 9, 0), impl.LeadForm)
}

func TestOrderOfErrorsOfStoreDrop(t *testing.T) {
	s := storeOf(7, fewItems()...)
	// LeadNone and LeadClash: the Ver of an item that does not exist is no Ver.
	for _, ver := range []int{-1, 0, 1, most} {
		wantNotDropped(t, s, 7, 4, ver, impl.LeadNone)
	}
	// LeadOld with LeadNone and with LeadClash.
	for _, epoch := range []int{1, 6} {
		wantNotDropped(t, s, epoch, 4, 0, impl.LeadOld)
		wantNotDropped(t, s, epoch, 4, 1, impl.LeadOld)
		wantNotDropped(t, s, epoch, 3, 2, impl.LeadOld)
	}
	// LeadForm with each of the others.
	for _, epoch := range []int{-1, 0, impl.MaxEpoch + 1} {
		wantNotDropped(t, s, epoch, 3, 1, impl.LeadForm)
		wantNotDropped(t, s, epoch, 4, 0, impl.LeadForm)
		wantNotDropped(t, s, epoch, 3, 2, impl.LeadForm)
	}
	for _, s := range invalidStores() {
		wantNotDropped(t, s, 6, 3, 1, impl.LeadForm)
		wantNotDropped(t, s, 7, 999, 1, impl.LeadForm)
		wantNotDropped(t, s, 7, 3, 8, impl.LeadForm)
	}
}

func TestStoresWithNilAndEmptyLists(t *testing.T) {
	for _, epoch := range []int{0, 7} {
		// The last list is empty, but has memory behind it.
		for _, items := range [][]impl.Item{nil, {}, fewItems()[:0]} {
			s := impl.Store{Epoch: epoch, Items: items}
			if !impl.StoreOk(s) {
				t.Errorf("StoreOk(%+v) is false", s)
			}
			if it, ok := impl.StoreGet(s, 3); ok || it != (impl.Item{}) {
				t.Errorf("StoreGet from %+v is %+v, %v", s, it, ok)
			}
			wantPut(t, s, 7, itemOf(3, 9, 0), storeOf(7, itemOf(3, 9, 1)))
			wantNotPut(t, s, 7, itemOf(3, 9, 1), impl.LeadClash)
			wantNotDropped(t, s, 7, 3, 1, impl.LeadNone)
		}
	}
}

// spaciousStore returns a copy of a store with items in the spare capacity that
// would be seen if they were read.
func spaciousStore(s impl.Store) impl.Store {
	s.Items = append(slices.Clone(s.Items), itemOf(999, 9, 9), itemOf(-1, -1, -1))[:len(s.Items)]
	return s
}

func TestStoresChangeNoArgumentAndShareNoMemory(t *testing.T) {
	for _, s := range append(validStores(), invalidStores()...) {
		given := spaciousStore(s)
		before := wholeText(reflect.ValueOf(given))
		some := slices.Clone(s.Items[:min(len(s.Items), impl.MaxItems)])
		for _, it := range append(some, itemOf(1, 1, 0), itemOf(4, 1, 0), itemOf(999, 1, 0), itemOf(999, 9, 9)) {
			put, putCode := impl.StorePut(given, impl.MaxEpoch, it)
			dropped, dropCode := impl.StoreDrop(given, impl.MaxEpoch, it.Key, it.Ver)
			got, ok := impl.StoreGet(given, it.Key)
			impl.StoreOk(given)
			if now := wholeText(reflect.ValueOf(given)); now != before {
				t.Fatalf("the store %s was changed to %s", before, now)
			}
			again, _ := impl.StorePut(given, impl.MaxEpoch, it)
			wantOwnMemory(t, "StorePut", put, given, again)
			wantOwnMemory(t, "StoreDrop", dropped, given, put)
			// The same without spare capacity: nothing behind the list is read.
			plain, plainCode := impl.StorePut(s, impl.MaxEpoch, it)
			if putCode != plainCode || !sameStore(put, plain) {
				t.Errorf("StorePut of %+v depends on what is behind %+v", it, s)
			}
			plain, plainCode = impl.StoreDrop(s, impl.MaxEpoch, it.Key, it.Ver)
			if dropCode != plainCode || !sameStore(dropped, plain) {
				t.Errorf("StoreDrop of %+v depends on what is behind %+v", it, s)
			}
			if plain, plainOk := impl.StoreGet(s, it.Key); got != plain || ok != plainOk || impl.StoreOk(given) != impl.StoreOk(s) {
				t.Errorf("StoreGet of %d depends on what is behind %+v", it.Key, s)
			}
		}
	}
}
