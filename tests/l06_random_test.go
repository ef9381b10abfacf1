package tests

import (
	"fmt"
	"math/rand"
	"slices"
	"testing"

	"loop.example/g00718/impl"
)

func (l luck) oneOf(numbers ...int) int { return numbers[l.Intn(len(numbers))] }

// lease is mostly valid.
func (l luck) lease() impl.Lease {
	if l.Intn(9) == 0 {
		return impl.Lease{}
	}
	if l.Intn(20) == 0 {
		all := leasesAtTheBounds()
		return all[l.Intn(len(all))]
	}
	epoch := l.oneOf(1, 2, 1+l.Intn(impl.MaxEpoch), 1+l.Intn(impl.MaxEpoch), impl.MaxEpoch-1, impl.MaxEpoch)
	till := l.oneOf(0, 1, l.Intn(100), l.Intn(impl.MaxTime), impl.MaxTime, impl.MaxTime+l.Intn(impl.MaxTime+1))
	return leaseOf(1+l.Intn(impl.MaxReplicas), epoch, till)
}

// bid is mostly close to the time at which the lease expires.
func (l luck) bid() bid {
	lease := l.lease()
	who := l.oneOf(lease.Who, lease.Who, 1+l.Intn(impl.MaxReplicas), 1+l.Intn(impl.MaxReplicas), l.Intn(impl.MaxReplicas+2))
	now := l.Intn(impl.MaxTime + 1)
	if lease.Till >= 0 && lease.Till <= impl.MaxTime+1 && l.Intn(3) > 0 {
		now = lease.Till + l.oneOf(-1, 0, 1, -l.Intn(100), l.Intn(100))
	}
	return bid{lease, who, now, l.oneOf(1, 10, 1+l.Intn(longest), longest, l.Intn(longest+2))}
}

// formOk is about what LeadForm is returned for.
func (b bid) formOk() bool {
	return isLease(b.lease) && b.who >= 1 && b.who <= impl.MaxReplicas && b.now >= 0 && b.now <= impl.MaxTime && b.span >= 1 && b.span <= longest
}

// rule is LeaseTry as the chapter states it.
func (b bid) rule() (impl.Lease, int) {
	out := b.lease
	out.Till = b.now + b.span
	if !b.formOk() {
		return impl.Lease{}, impl.LeadForm
	}
	if b.lease.Who == b.who && b.lease.Till > b.now {
		return out, impl.LeadFine
	}
	if b.lease.Till > b.now {
		return impl.Lease{}, impl.LeadHeld
	}
	out.Who = b.who
	out.Epoch++
	if out.Epoch > impl.MaxEpoch {
		return impl.Lease{}, impl.LeadFull
	}
	return out, impl.LeadFine
}

func wantRule(t *testing.T, b bid) {
	t.Helper()
	got, code := b.try()
	if want, wantCode := b.rule(); got != want || code != wantCode {
		t.Fatalf("LeaseTry of %+v is %+v with the code %d, want %+v with %d", b, got, code, want, wantCode)
	}
	if !impl.LeaseOk(got) {
		t.Fatalf("LeaseTry of %+v is %+v, which is not valid", b, got)
	}
}

func TestLeaseTryAtAllBounds(t *testing.T) {
	for _, l := range leasesAtTheBounds() {
		for _, who := range whosAtTheBounds() {
			for _, now := range []int{-1, 0, 1, 49, 50, 51, impl.MaxTime - 1, impl.MaxTime, impl.MaxTime + 1} {
				for _, span := range []int{0, 1, longest, longest + 1} {
					wantRule(t, bid{l, who, now, span})
				}
			}
		}
	}
}

// Promise 9, first part.
func TestLeaseTryKeepsOrIncreasesTheEpoch(t *testing.T) {
	seen := cases{}
	l := luck{rand.New(rand.NewSource(1))}
	for range 20000 {
		b := l.bid()
		wantRule(t, b)
		if !b.formOk() {
			seen["a wrong form"]++
			continue
		}
		got, code := b.try()
		runs := impl.LeaseHolds(b.lease, b.lease.Who, b.lease.Epoch, b.now)
		switch {
		case runs && b.who == b.lease.Who:
			seen["the holder"]++
			if code != impl.LeadFine || got.Who != b.who || got.Epoch != b.lease.Epoch {
				t.Fatalf("the holder got %+v with the code %d by %+v", got, code, b)
			}
		case runs:
			seen["another replica before it expires"]++
			if code == impl.LeadFine {
				t.Fatalf("another replica got %+v by %+v", got, b)
			}
		case b.lease.Epoch == impl.MaxEpoch:
			seen["no epoch left"]++
		default:
			seen[fmt.Sprintf("expired %d before, same replica: %v", min(2, b.now-b.lease.Till), b.who == b.lease.Who)]++
			if code != impl.LeadFine || got.Who != b.who || got.Epoch != b.lease.Epoch+1 {
				t.Fatalf("a new holder got %+v with the code %d by %+v", got, code, b)
			}
		}
	}
	seen.want(t, "a wrong form", "the holder", "another replica before it expires", "no epoch left")
	for ago := range 3 {
		seen.want(t, fmt.Sprintf("expired %d before, same replica: true", ago), fmt.Sprintf("expired %d before, same replica: false", ago))
	}
}

// The chapter's guarantee: every epoch belongs to one replica, and there is a
// single holder at a time, until the epochs have run out.
func TestLeaseThroughAllEpochs(t *testing.T) {
	l := luck{rand.New(rand.NewSource(2))}
	seen := cases{}
	lease, now := impl.Lease{}, 0
	owners := map[int]int{}
	for range 12000 {
		now += l.oneOf(0, 0, 1, 1, 2, 5)
		b := bid{lease, 1 + l.Intn(impl.MaxReplicas), now, 1 + l.Intn(6)}
		got, code := b.try()
		seen[fmt.Sprint("code ", code)]++
		if code != impl.LeadFine {
			continue
		}
		if owner, taken := owners[got.Epoch]; taken && owner != got.Who || got.Epoch < lease.Epoch {
			t.Fatalf("LeaseTry of %+v is %+v, but the epoch is of %d", b, got, owner)
		}
		owners[got.Epoch] = got.Who
		for who := 1; who <= impl.MaxReplicas; who++ {
			for _, epoch := range []int{got.Epoch - 1, got.Epoch, got.Epoch + 1} {
				want := who == got.Who && epoch == got.Epoch
				if impl.LeaseHolds(got, who, epoch, now) != want {
					t.Fatalf("LeaseHolds(%+v, %d, %d, %d) is not %v", got, who, epoch, now, want)
				}
			}
		}
		lease = got
	}
	if len(owners) != impl.MaxEpoch || lease.Epoch != impl.MaxEpoch {
		t.Errorf("only %d epochs were given away", len(owners))
	}
	seen.want(t, fmt.Sprint("code ", impl.LeadFine), fmt.Sprint("code ", impl.LeadHeld), fmt.Sprint("code ", impl.LeadFull))
}

// write is a call of StorePut or, with drop, of StoreDrop.
type write struct {
	epoch int
	item  impl.Item
	drop  bool
}

func (w write) do(s impl.Store) (impl.Store, int) {
	if w.drop {
		return impl.StoreDrop(s, w.epoch, w.item.Key, w.item.Ver)
	}
	return impl.StorePut(s, w.epoch, w.item)
}

func (w write) outcome(code int) string { return fmt.Sprintf("the code %d, drop: %v", code, w.drop) }

// rule is StorePut or StoreDrop of a valid store as the chapter states them.
func (w write) rule(s impl.Store) (impl.Store, int) {
	it := w.item
	at := slices.IndexFunc(s.Items, func(a impl.Item) bool { return a.Key == it.Key })
	ver := 0
	if at >= 0 {
		ver = s.Items[at].Ver
	}
	formOk := w.epoch >= 1 && w.epoch <= impl.MaxEpoch
	if !w.drop {
		formOk = formOk && it.Key >= 1 && it.Key <= lastKey && it.Val >= 0 && it.Val <= most && it.Ver >= 0 && it.Ver <= most
	}
	if !formOk {
		return impl.Store{}, impl.LeadForm
	}
	if w.epoch < s.Epoch {
		return impl.Store{}, impl.LeadOld
	}
	if w.drop && at < 0 {
		return impl.Store{}, impl.LeadNone
	}
	if it.Ver != ver {
		return impl.Store{}, impl.LeadClash
	}
	var rest []impl.Item
	for _, a := range s.Items {
		if a.Key != it.Key {
			rest = append(rest, a)
		}
	}
	if w.drop {
		return impl.Store{Epoch: w.epoch, Items: rest}, impl.LeadFine
	}
	if len(rest) == impl.MaxItems || it.Ver+1 > most {
		return impl.Store{}, impl.LeadFull
	}
	rest = append(rest, itemOf(it.Key, it.Val, it.Ver+1))
	slices.SortFunc(rest, func(a impl.Item, b impl.Item) int { return a.Key - b.Key })
	return impl.Store{Epoch: w.epoch, Items: rest}, impl.LeadFine
}

// store is valid. Some have as many items as possible, or one less.
func (l luck) store() impl.Store {
	s := impl.Store{Epoch: l.oneOf(0, 1, 1+l.Intn(impl.MaxEpoch), 1+l.Intn(impl.MaxEpoch), impl.MaxEpoch-1, impl.MaxEpoch)}
	number := l.oneOf(0, 1, l.Intn(impl.MaxItems), impl.MaxItems-1, impl.MaxItems, impl.MaxItems)
	// Among few Keys many are next to each other.
	keys := l.Perm(l.oneOf(impl.MaxItems+2, lastKey))[:number]
	slices.Sort(keys)
	for _, key := range keys {
		s.Items = append(s.Items, itemOf(key+1, l.amount(), max(1, l.amount())))
	}
	return s
}

func (l luck) amount() int { return l.oneOf(0, 1, 2, l.Intn(most+1), most-1, most) }

// write mostly has an epoch and a Ver that are accepted or nearly so, and half
// of the Keys exist.
func (l luck) write(s impl.Store) write {
	w := write{item: itemOf(l.oneOf(1, 1+l.Intn(impl.MaxItems+2), 1+l.Intn(lastKey), lastKey), l.amount(), 0), drop: l.Intn(6) == 0}
	w.epoch = min(max(1, s.Epoch+l.oneOf(0, 0, 0, 0, 1, 1, -1)), impl.MaxEpoch)
	if len(s.Items) > 0 && l.Intn(2) == 0 {
		w.item.Key = s.Items[l.Intn(len(s.Items))].Key
	}
	for _, it := range s.Items {
		if it.Key == w.item.Key {
			w.item.Ver = it.Ver
		}
	}
	switch l.Intn(16) {
	case 0:
		w.item.Ver = l.oneOf(0, 1, w.item.Ver-1, w.item.Ver+1, l.amount())
	case 1:
		w.epoch = l.oneOf(0, 1, impl.MaxEpoch, impl.MaxEpoch+1)
	case 2:
		w.item.Key = l.oneOf(-1, 0, lastKey+1)
	case 3:
		w.item.Val = l.oneOf(-1, most+1)
	}
	return w
}

// wantOthers compares what StoreGet returns for all Keys but one, of which most
// are in a store or next to one that is.
func wantOthers(t *testing.T, before impl.Store, after impl.Store, but int) {
	t.Helper()
	keys := []int{-1, 0, 1, lastKey, lastKey + 1}
	for _, it := range slices.Concat(before.Items, after.Items) {
		keys = append(keys, it.Key-1, it.Key, it.Key+1)
	}
	for _, key := range keys {
		old, had := impl.StoreGet(before, key)
		if it, has := impl.StoreGet(after, key); key != but && (it != old || has != had) {
			t.Errorf("StoreGet of %d was %+v, %v and is %+v, %v", key, old, had, it, has)
		}
	}
}

// wantWritten expects that nothing but the item has changed, and that a write
// with its epoch or Ver is then an old one.
func wantWritten(t *testing.T, before impl.Store, w write, after impl.Store) {
	t.Helper()
	old, had := impl.StoreGet(before, w.item.Key)
	if w.epoch < before.Epoch || w.item.Ver != old.Ver || w.drop && !had {
		t.Error("an old epoch or version was accepted")
	}
	it, has := impl.StoreGet(after, w.item.Key)
	if w.drop && (has || it != (impl.Item{})) {
		t.Errorf("StoreGet is %+v, %v after a drop", it, has)
	}
	if !w.drop && (!has || it != itemOf(w.item.Key, w.item.Val, w.item.Ver+1)) {
		t.Errorf("StoreGet is %+v, %v after a put", it, has)
	}
	if after.Epoch != w.epoch || !impl.StoreOk(after) {
		t.Errorf("the store has the epoch %d and is %+v", after.Epoch, after)
	}
	wantOthers(t, before, after, w.item.Key)
	again := impl.LeadClash
	if w.drop {
		again = impl.LeadNone
	}
	got, code := w.do(after)
	wantNoStore(t, "the same write again", got, code, again)
	if w.epoch > 1 {
		wantNotPut(t, after, w.epoch-1, itemOf(w.item.Key, 0, it.Ver), impl.LeadOld)
		wantNotDropped(t, after, w.epoch-1, w.item.Key, it.Ver, impl.LeadOld)
	}
}

// Promise 9, second part.
func TestWritesAgainstTheRule(t *testing.T) {
	seen := cases{}
	for seed := range int64(6000) {
		l := luck{rand.New(rand.NewSource(seed))}
		s := l.store()
		if !impl.StoreOk(s) {
			t.Fatalf("the store %+v is not valid", s)
		}
		w := l.write(s)
		got, code := w.do(s)
		seen[w.outcome(code)]++
		want, wantCode := w.rule(s)
		if code != wantCode || !sameStore(got, want) {
			t.Fatalf("%+v of %+v is %+v with the code %d, want %+v with %d", w, s, got, code, want, wantCode)
		}
		if code == impl.LeadFine {
			wantWritten(t, s, w, got)
		}
		if t.Failed() {
			t.Fatalf("this was %+v of %+v", w, s)
		}
	}
	wantAllCodes(t, seen)
}

func wantAllCodes(t *testing.T, seen cases) {
	t.Helper()
	for _, code := range []int{impl.LeadFine, impl.LeadForm, impl.LeadOld, impl.LeadClash, impl.LeadFull} {
		seen.want(t, write{}.outcome(code))
	}
	for _, code := range []int{impl.LeadFine, impl.LeadForm, impl.LeadOld, impl.LeadClash, impl.LeadNone} {
		seen.want(t, write{drop: true}.outcome(code))
	}
}

// A put of a new item is undone by a drop, but for the Epoch.
func TestStoreDropAfterStorePut(t *testing.T) {
	seen := cases{}
	for seed := range int64(3000) {
		l := luck{rand.New(rand.NewSource(seed))}
		s := l.store()
		w := write{epoch: max(1, s.Epoch), item: itemOf(1+l.Intn(lastKey), l.amount(), 0)}
		with, code := w.do(s)
		if code != impl.LeadFine {
			continue
		}
		seen["a new item"]++
		wantDropped(t, with, impl.MaxEpoch, w.item.Key, 1, storeOf(impl.MaxEpoch, s.Items...))
	}
	seen.want(t, "a new item")
}

// The chapter's guarantee: the epochs of accepted writes never decrease.
func TestSequencesOfWrites(t *testing.T) {
	seen := cases{}
	for seed := range int64(40) {
		l := luck{rand.New(rand.NewSource(seed))}
		s := impl.Store{}
		model := map[int]impl.Item{}
		for range 200 {
			w := l.write(s)
			got, code := w.do(s)
			seen[w.outcome(code)]++
			if code != impl.LeadFine {
				wantNoStore(t, "a rejected write", got, code, code)
				continue
			}
			if got.Epoch < s.Epoch || got.Epoch != w.epoch || !impl.StoreOk(got) {
				t.Fatalf("%+v of %+v is %+v", w, s, got)
			}
			model[w.item.Key] = itemOf(w.item.Key, w.item.Val, w.item.Ver+1)
			if w.drop {
				delete(model, w.item.Key)
			}
			if len(got.Items) != len(model) {
				t.Fatalf("%+v of %+v is %+v, want %v", w, s, got, model)
			}
			for _, it := range got.Items {
				if model[it.Key] != it {
					t.Fatalf("%+v of %+v is %+v, want %v", w, s, got, model)
				}
			}
			s = got
		}
	}
	wantAllCodes(t, seen)
}
