package tests

import (
	"fmt"
	"math"
	"reflect"
	"slices"
	"testing"

	"loop.example/g00718/impl"
)

func instOf(id int, pool int, state int) impl.Inst {
	return impl.Inst{Id: id, Pool: pool, State: state}
}

// provOf sorts nothing, so that it also makes providers that are not valid.
func provOf(seen int, list ...impl.Inst) impl.Prov { return impl.Prov{Seen: seen, Insts: list} }

func creationOf(epoch int, id int, pool int) impl.Msg {
	return impl.Msg{Kind: impl.ActGrow, Epoch: epoch, Id: id, Pool: pool}
}

func terminationOf(epoch int, id int) impl.Msg {
	return impl.Msg{Kind: impl.ActShrink, Epoch: epoch, Id: id}
}

// fewInsts has room before, between and behind its Ids, and machines that are up
// and gone in two pools each.
func fewInsts() []impl.Inst {
	return []impl.Inst{instOf(3, 1, impl.InstUp), instOf(5, 0, impl.InstGone), instOf(50, 4, impl.InstUp), instOf(90, 1, impl.InstGone)}
}

// manyInsts has the Ids 2, 3 and so on, for less than MaxId of them.
func manyInsts(number int) []impl.Inst {
	var out []impl.Inst
	for at := range number {
		out = append(out, instOf(at+2, at%impl.MaxPools, stateOf(at%3 > 0)))
	}
	return out
}

func stateOf(up bool) int {
	if up {
		return impl.InstUp
	}
	return impl.InstGone
}

func sameProv(a impl.Prov, b impl.Prov) bool {
	return a.Seen == b.Seen && slices.Equal(a.Insts, b.Insts)
}

// isDone and isRefused are about the two results of ProvDo or ProvFail.
func isDone(got impl.Prov, code int, want impl.Prov) bool {
	return code == impl.LeadFine && sameProv(got, want) && impl.ProvOk(got)
}

func isRefused(got impl.Prov, code int, want int) bool {
	return code == want && sameProv(got, impl.Prov{})
}

func wantDone(t *testing.T, p impl.Prov, m impl.Msg, works bool, want impl.Prov) {
	t.Helper()
	if got, code := impl.ProvDo(p, m, works); !isDone(got, code, want) {
		t.Errorf("ProvDo of %+v, %v by %+v is %+v with the code %d, want %+v", m, works, p, got, code, want)
	}
}

// wantRefused is about both values of works, as no error depends on it.
func wantRefused(t *testing.T, p impl.Prov, m impl.Msg, want int) {
	t.Helper()
	for _, works := range []bool{false, true} {
		if got, code := impl.ProvDo(p, m, works); !isRefused(got, code, want) {
			t.Errorf("ProvDo of %+v, %v by %+v is %+v with the code %d, want the zero value and the code %d", m, works, p, got, code, want)
		}
	}
}

func wantFailed(t *testing.T, p impl.Prov, id int, want impl.Prov) {
	t.Helper()
	if got, code := impl.ProvFail(p, id); !isDone(got, code, want) {
		t.Errorf("ProvFail of %d by %+v is %+v with the code %d, want %+v", id, p, got, code, want)
	}
}

func wantNotFailed(t *testing.T, p impl.Prov, id int, want int) {
	t.Helper()
	if got, code := impl.ProvFail(p, id); !isRefused(got, code, want) {
		t.Errorf("ProvFail of %d by %+v is %+v with the code %d, want the zero value and the code %d", id, p, got, code, want)
	}
}

func validProvs() []impl.Prov {
	return []impl.Prov{
		{}, {Seen: 1}, {Seen: impl.MaxEpoch}, {Insts: []impl.Inst{}},
		provOf(0, instOf(1, 0, impl.InstUp)), provOf(0, instOf(impl.MaxId, impl.MaxPools-1, impl.InstGone)),
		provOf(7, instOf(1, 0, impl.InstGone), instOf(2, 0, impl.InstUp)),
		provOf(7, fewInsts()...),
		provOf(7, manyInsts(impl.MaxInsts-1)...), provOf(impl.MaxEpoch, manyInsts(impl.MaxInsts)...),
	}
}

func poolsAtTheBounds() []int {
	return []int{math.MinInt, -1, 0, 1, impl.MaxPools - 1, impl.MaxPools, math.MaxInt}
}

func statesAtTheBounds() []int {
	return []int{math.MinInt, -1, 0, impl.InstUp, impl.InstGone, 3, math.MaxInt}
}

func isPool(pool int) bool { return pool >= 0 && pool < impl.MaxPools }

func isState(state int) bool { return state == impl.InstUp || state == impl.InstGone }

// invalidInsts differ from a valid one in one field.
func invalidInsts(good impl.Inst) []impl.Inst {
	var out []impl.Inst
	for _, id := range idsAtTheBounds() {
		if !isId(id) {
			out = append(out, instOf(id, good.Pool, good.State))
		}
	}
	for _, pool := range poolsAtTheBounds() {
		if !isPool(pool) {
			out = append(out, instOf(good.Id, pool, good.State))
		}
	}
	for _, state := range statesAtTheBounds() {
		if !isState(state) {
			out = append(out, instOf(good.Id, good.Pool, state))
		}
	}
	return out
}

// invalidProvs returns providers with the Seen 7 and one fault each, and some
// whose Seen is the fault.
func invalidProvs() []impl.Prov {
	few := fewInsts()
	var out []impl.Prov
	for _, seen := range []int{math.MinInt, -1, impl.MaxEpoch + 1, math.MaxInt} {
		out = append(out, provOf(seen), provOf(seen, few...))
	}
	lists := [][]impl.Inst{
		manyInsts(impl.MaxInsts + 1),
		make([]impl.Inst, 1), make([]impl.Inst, 1000),
		{few[0], few[0]}, {few[0], instOf(3, 2, impl.InstGone)}, {few[0], few[1], few[2], instOf(50, 1, impl.InstUp)},
		{few[1], few[0]}, {few[0], few[2], few[1], few[3]}, {few[0], few[1], few[3], few[2]}, {few[0], few[1], few[2], few[0]},
		append(manyInsts(impl.MaxInsts-1), instOf(1, 0, impl.InstUp)),
		append(manyInsts(impl.MaxInsts-1), instOf(impl.MaxId, 0, 0)),
	}
	for at := range few {
		for _, i := range invalidInsts(few[at]) {
			lists = append(lists, changed(few, at, i), []impl.Inst{i})
		}
	}
	for _, list := range lists {
		out = append(out, provOf(7, list...))
	}
	return out
}

func TestProvOk(t *testing.T) {
	wantValidity(t, "ProvOk", impl.ProvOk, validProvs(), invalidProvs())
}

func TestProvOkOfSeen(t *testing.T) {
	for _, seen := range epochsAtTheBounds() {
		for _, list := range [][]impl.Inst{nil, fewInsts(), manyInsts(impl.MaxInsts)} {
			want := seen >= 0 && seen <= impl.MaxEpoch
			if impl.ProvOk(provOf(seen, list...)) != want {
				t.Errorf("ProvOk with the Seen %d and %d instances is not %v", seen, len(list), want)
			}
		}
	}
}

func TestProvOkOfTheNumber(t *testing.T) {
	for _, number := range []int{0, 1, impl.MaxInsts - 1, impl.MaxInsts, impl.MaxInsts + 1, impl.MaxId - 1} {
		if impl.ProvOk(provOf(7, manyInsts(number)...)) != (number <= impl.MaxInsts) {
			t.Errorf("ProvOk of %d instances is wrong", number)
		}
	}
}

// Every field at its bounds, in the only instance, in the first and in the last
// of several.
func TestProvOkOfInstances(t *testing.T) {
	low, high := instOf(2, 0, impl.InstUp), instOf(impl.MaxId-1, 0, impl.InstGone)
	for _, id := range idsAtTheBounds() {
		for _, pool := range poolsAtTheBounds() {
			for _, state := range statesAtTheBounds() {
				i := instOf(id, pool, state)
				want := isId(id) && isPool(pool) && isState(state)
				only, first, last := provOf(7, i), provOf(7, i, low, high), provOf(7, low, high, i)
				if impl.ProvOk(only) != want {
					t.Errorf("ProvOk(%+v) is not %v", only, want)
				}
				if impl.ProvOk(first) != (want && id < low.Id) {
					t.Errorf("ProvOk(%+v) is wrong", first)
				}
				if impl.ProvOk(last) != (want && id > high.Id) {
					t.Errorf("ProvOk(%+v) is wrong", last)
				}
			}
		}
	}
}

// isMsg is MsgOk as the chapter states it.
func isMsg(m impl.Msg) bool {
	if m.Kind != impl.ActGrow && m.Kind != impl.ActShrink {
		return false
	}
	if m.Kind == impl.ActShrink && m.Pool != 0 {
		return false
	}
	return m.Epoch >= 1 && m.Epoch <= impl.MaxEpoch && isId(m.Id) && isPool(m.Pool)
}

// messagesAtTheBounds returns valid messages and others.
func messagesAtTheBounds() []impl.Msg {
	var out []impl.Msg
	for _, kind := range []int{math.MinInt, -1, impl.ActNone, impl.ActGrow, impl.ActShrink, 3, math.MaxInt} {
		for _, epoch := range epochsAtTheBounds() {
			for _, id := range idsAtTheBounds() {
				for _, pool := range poolsAtTheBounds() {
					out = append(out, impl.Msg{Kind: kind, Epoch: epoch, Id: id, Pool: pool})
				}
			}
		}
	}
	return out
}

// invalidMsgs differ from a valid message in one field.
func invalidMsgs(good impl.Msg) []impl.Msg {
	var all []impl.Msg
	change := func(set func(m *impl.Msg, to int), values ...int) {
		for _, to := range values {
			m := good
			set(&m, to)
			all = append(all, m)
		}
	}
	change(func(m *impl.Msg, to int) { m.Kind = to }, math.MinInt, -1, 0, 3, math.MaxInt)
	change(func(m *impl.Msg, to int) { m.Epoch = to }, epochsAtTheBounds()...)
	change(func(m *impl.Msg, to int) { m.Id = to }, idsAtTheBounds()...)
	change(func(m *impl.Msg, to int) { m.Pool = to }, poolsAtTheBounds()...)
	return slices.DeleteFunc(all, isMsg)
}

func TestMsgOk(t *testing.T) {
	for _, pool := range []int{0, 1, impl.MaxPools - 1} {
		for _, epoch := range []int{1, impl.MaxEpoch} {
			for _, id := range []int{1, impl.MaxId} {
				if m := creationOf(epoch, id, pool); !impl.MsgOk(m) {
					t.Errorf("MsgOk(%+v) is false", m)
				}
				m := terminationOf(epoch, id)
				if m.Pool = pool; impl.MsgOk(m) != (pool == 0) {
					t.Errorf("MsgOk(%+v) is %v", m, pool != 0)
				}
			}
		}
	}
	for _, m := range messagesAtTheBounds() {
		if impl.MsgOk(m) != isMsg(m) {
			t.Errorf("MsgOk(%+v) is %v", m, impl.MsgOk(m))
		}
	}
}

func TestProvDoCreatesInItsPlace(t *testing.T) {
	few := fewInsts()
	p := provOf(7, few...)
	for at, id := range []int{1, 4, 6, 51, 91} {
		for _, pool := range []int{0, 1, impl.MaxPools - 1} {
			for _, works := range []bool{true, false} {
				made := instOf(id, pool, stateOf(works))
				wantDone(t, p, creationOf(7, id, pool), works, provOf(7, slices.Insert(slices.Clone(few), at, made)...))
			}
		}
	}
	for _, id := range []int{1, 2, impl.MaxId} {
		wantDone(t, impl.Prov{}, creationOf(1, id, 2), true, provOf(1, instOf(id, 2, impl.InstUp)))
		wantDone(t, impl.Prov{}, creationOf(1, id, 2), false, provOf(1, instOf(id, 2, impl.InstGone)))
	}
	wantDone(t, p, creationOf(7, impl.MaxId, 0), true, provOf(7, append(slices.Clone(few), instOf(impl.MaxId, 0, impl.InstUp))...))
}

// Neither the pool nor the state of an instance that exists is changed.
func TestProvDoCreatesNothingTwice(t *testing.T) {
	few := fewInsts()
	for _, i := range few {
		for pool := range impl.MaxPools {
			for _, works := range []bool{true, false} {
				for _, epoch := range []int{7, 8, impl.MaxEpoch} {
					wantDone(t, provOf(7, few...), creationOf(epoch, i.Id, pool), works, provOf(epoch, few...))
				}
			}
		}
	}
}

func TestProvDoTerminates(t *testing.T) {
	few := fewInsts()
	for at, i := range few {
		gone := changed(few, at, instOf(i.Id, i.Pool, impl.InstGone))
		for _, works := range []bool{true, false} {
			wantDone(t, provOf(7, few...), terminationOf(7, i.Id), works, provOf(7, gone...))
			wantDone(t, provOf(7, few...), terminationOf(8, i.Id), works, provOf(8, gone...))
		}
	}
	for _, id := range []int{1, 2, 4, 6, 49, 51, 89, 91, impl.MaxId} {
		wantRefused(t, provOf(7, few...), terminationOf(7, id), impl.LeadNone)
		wantRefused(t, impl.Prov{}, terminationOf(7, id), impl.LeadNone)
	}
	full := manyInsts(impl.MaxInsts)
	for at, i := range full {
		gone := changed(full, at, instOf(i.Id, i.Pool, impl.InstGone))
		wantDone(t, provOf(7, full...), terminationOf(7, i.Id), true, provOf(7, gone...))
	}
	// Also where nothing can be created: there is no such instance.
	wantRefused(t, provOf(7, full...), terminationOf(7, 1), impl.LeadNone)
}

func TestProvDoOfEpochs(t *testing.T) {
	few := fewInsts()
	for _, seen := range []int{0, 1, 2, 7, impl.MaxEpoch - 1, impl.MaxEpoch} {
		p := provOf(seen, few...)
		for _, epoch := range append(epochsAtTheBounds(), seen-1, seen, seen+1) {
			code := impl.LeadFine
			if epoch < seen {
				code = impl.LeadOld
			}
			if epoch < 1 || epoch > impl.MaxEpoch {
				code = impl.LeadForm
			}
			if code != impl.LeadFine {
				wantRefused(t, p, creationOf(epoch, 4, 2), code)
				wantRefused(t, p, creationOf(epoch, 3, 1), code)
				wantRefused(t, p, terminationOf(epoch, 3), code)
				wantRefused(t, p, terminationOf(epoch, 5), code)
				continue
			}
			wantDone(t, p, creationOf(epoch, 4, 2), true, provOf(epoch, slices.Insert(slices.Clone(few), 1, instOf(4, 2, impl.InstUp))...))
			wantDone(t, p, creationOf(epoch, 3, 1), true, provOf(epoch, few...))
			wantDone(t, p, terminationOf(epoch, 3), true, provOf(epoch, changed(few, 0, instOf(3, 1, impl.InstGone))...))
			wantDone(t, p, terminationOf(epoch, 5), true, provOf(epoch, few...))
		}
	}
}

func TestProvDoIntoFull(t *testing.T) {
	almost, full := manyInsts(impl.MaxInsts-1), manyInsts(impl.MaxInsts)
	for _, works := range []bool{true, false} {
		first, last := instOf(1, 2, stateOf(works)), instOf(impl.MaxId, 2, stateOf(works))
		wantDone(t, provOf(7, almost...), creationOf(7, 1, 2), works, provOf(7, append([]impl.Inst{first}, almost...)...))
		wantDone(t, provOf(7, almost...), creationOf(7, impl.MaxId, 2), works, provOf(7, append(slices.Clone(almost), last)...))
		for _, i := range full {
			wantDone(t, provOf(7, full...), creationOf(8, i.Id, 2), works, provOf(8, full...))
		}
	}
	gone := slices.Clone(full)
	for at := range gone {
		gone[at].State = impl.InstGone
	}
	for _, id := range []int{1, impl.MaxInsts + 2, impl.MaxId} {
		wantRefused(t, provOf(7, full...), creationOf(7, id, 2), impl.LeadFull)
		wantRefused(t, provOf(7, full...), creationOf(8, id, 2), impl.LeadFull)
		// What is gone is not forgotten, so that it makes no room either.
		wantRefused(t, provOf(7, gone...), creationOf(7, id, 2), impl.LeadFull)
	}
}

func TestProvDoOfInvalid(t *testing.T) {
	good := []impl.Msg{creationOf(7, 4, 2), creationOf(7, 3, 1), terminationOf(7, 3), terminationOf(7, 5)}
	for _, m := range good {
		for _, wrong := range invalidMsgs(m) {
			for _, p := range validProvs() {
				wantRefused(t, p, wrong, impl.LeadForm)
			}
		}
		for _, p := range invalidProvs() {
			wantRefused(t, p, m, impl.LeadForm)
			m.Epoch = impl.MaxEpoch
			wantRefused(t, p, m, impl.LeadForm)
		}
	}
}

// LeadFull and LeadNone are of different kinds of messages, so that they never
// apply together.
func TestOrderOfErrorsOfProvDo(t *testing.T) {
	few, full := provOf(7, fewInsts()...), provOf(7, manyInsts(impl.MaxInsts)...)
	// LeadOld with LeadFull and with LeadNone.
	for _, epoch := range []int{1, 6} {
		wantRefused(t, full, creationOf(epoch, 1, 2), impl.LeadOld)
		wantRefused(t, full, creationOf(epoch, impl.MaxId, 2), impl.LeadOld)
		wantRefused(t, few, terminationOf(epoch, 4), impl.LeadOld)
		wantRefused(t, provOf(7), terminationOf(epoch, 4), impl.LeadOld)
	}
	// LeadForm of the message with each of the others.
	for _, m := range []impl.Msg{creationOf(7, 1, 2), creationOf(6, 1, 2), creationOf(6, 3, 2)} {
		for _, wrong := range invalidMsgs(m) {
			wantRefused(t, full, wrong, impl.LeadForm)
		}
	}
	for _, m := range []impl.Msg{terminationOf(7, 4), terminationOf(6, 4), terminationOf(6, 3)} {
		for _, wrong := range invalidMsgs(m) {
			wantRefused(t, few, wrong, impl.LeadForm)
		}
	}
	// LeadForm of the provider with each of the others.
	for _, p := range invalidProvs() {
		wantRefused(t, p, creationOf(6, 4, 2), impl.LeadForm)
		wantRefused(t, p, creationOf(6, 3, 1), impl.LeadForm)
		wantRefused(t, p, terminationOf(6, 3), impl.LeadForm)
		wantRefused(t, p, terminationOf(7, 98), impl.LeadForm)
		wantRefused(t, p, terminationOf(6, 98), impl.LeadForm)
	}
	broken := provOf(7, changed(full.Insts, impl.MaxInsts-1, instOf(impl.MaxId, 0, 0))...)
	wantRefused(t, broken, creationOf(7, 1, 2), impl.LeadForm)
	wantRefused(t, provOf(impl.MaxEpoch+1, full.Insts...), creationOf(7, 1, 2), impl.LeadForm)
	wantRefused(t, provOf(7, manyInsts(impl.MaxInsts+1)...), creationOf(7, 1, 2), impl.LeadForm)
}

// someIds has those of a provider, their neighbours and some that are out of
// range.
func someIds(p impl.Prov) []int {
	ids := idsAtTheBounds()
	for _, i := range p.Insts {
		ids = append(ids, i.Id-1, i.Id, i.Id+1)
	}
	return ids
}

func TestProvState(t *testing.T) {
	want := func(p impl.Prov, id int, want int) {
		t.Helper()
		if got := impl.ProvState(p, id); got != want {
			t.Errorf("ProvState of %d by %+v is %d, want %d", id, p, got, want)
		}
	}
	for _, p := range validProvs() {
		states := map[int]int{}
		for _, i := range p.Insts {
			states[i.Id] = i.State
		}
		for _, id := range someIds(p) {
			want(p, id, states[id])
		}
	}
	for _, p := range invalidProvs() {
		for _, id := range someIds(p) {
			want(p, id, 0)
		}
	}
}

func TestProvCount(t *testing.T) {
	few := provOf(7, fewInsts()...)
	for pool, want := range []int{0, 1, 0, 0, 1} {
		wantInt(t, "ProvCount", impl.ProvCount(few, pool), want)
	}
	for _, p := range validProvs() {
		up := map[int]int{}
		for _, i := range p.Insts {
			if i.State == impl.InstUp {
				up[i.Pool]++
			}
		}
		for _, pool := range append(poolsAtTheBounds(), 2, 3) {
			wantInt(t, fmt.Sprintf("ProvCount of %d by %+v", pool, p), impl.ProvCount(p, pool), up[pool])
		}
	}
	for _, p := range invalidProvs() {
		for _, pool := range append(poolsAtTheBounds(), 2, 3) {
			wantInt(t, fmt.Sprintf("ProvCount of %d by %+v", pool, p), impl.ProvCount(p, pool), -1)
		}
	}
}

func TestProvFail(t *testing.T) {
	for _, p := range validProvs() {
		for _, id := range someIds(p) {
			at := slices.IndexFunc(p.Insts, func(i impl.Inst) bool { return i.Id == id && i.State == impl.InstUp })
			if at < 0 {
				// None has the Id, or it is gone.
				wantNotFailed(t, p, id, impl.LeadNone)
				continue
			}
			// Seen is kept: no message was processed.
			failed := provOf(p.Seen, exchanged(p.Insts, at, func(i *impl.Inst) { i.State = impl.InstGone })...)
			wantFailed(t, p, id, failed)
			wantNotFailed(t, failed, id, impl.LeadNone)
		}
	}
}

func TestProvFailOfInvalid(t *testing.T) {
	for _, p := range invalidProvs() {
		// Most of these would be LeadNone too.
		for _, id := range append(someIds(p), 3, 5, 98) {
			wantNotFailed(t, p, id, impl.LeadForm)
		}
	}
}

func TestProvsWithNilAndEmptyLists(t *testing.T) {
	for _, seen := range []int{0, 7} {
		// The last list is empty, but has memory behind it.
		for _, list := range [][]impl.Inst{nil, {}, fewInsts()[:0]} {
			p := impl.Prov{Seen: seen, Insts: list}
			if !impl.ProvOk(p) {
				t.Errorf("ProvOk(%+v) is false", p)
			}
			wantInt(t, "ProvState", impl.ProvState(p, 3), 0)
			wantInt(t, "ProvCount", impl.ProvCount(p, 1), 0)
			wantNotFailed(t, p, 3, impl.LeadNone)
			wantRefused(t, p, terminationOf(7, 3), impl.LeadNone)
			wantDone(t, p, creationOf(7, 3, 1), true, provOf(7, instOf(3, 1, impl.InstUp)))
		}
	}
}

// spaciousProv returns a copy of a provider with instances in the spare capacity
// that would be seen if they were read.
func spaciousProv(p impl.Prov) impl.Prov {
	p.Insts = append(slices.Clone(p.Insts), instOf(98, 1, impl.InstUp), instOf(-1, -1, -1))[:len(p.Insts)]
	return p
}

// outcomes are all results for one provider, message and Id.
type outcomes struct {
	Ok                 bool
	State, Count       int
	Done, Failed       impl.Prov
	DoneCode, FailCode int
}

func outcomesOf(p impl.Prov, m impl.Msg) outcomes {
	out := outcomes{Ok: impl.ProvOk(p), State: impl.ProvState(p, m.Id), Count: impl.ProvCount(p, m.Pool)}
	out.Done, out.DoneCode = impl.ProvDo(p, m, true)
	out.Failed, out.FailCode = impl.ProvFail(p, m.Id)
	return out
}

func TestProvsChangeNoArgumentAndShareNoMemory(t *testing.T) {
	for _, p := range append(validProvs(), invalidProvs()...) {
		given := spaciousProv(p)
		before := wholeText(reflect.ValueOf(given))
		messages := []impl.Msg{creationOf(impl.MaxEpoch, 1, 1), creationOf(impl.MaxEpoch, 98, 1), terminationOf(impl.MaxEpoch, 98), creationOf(1, 4, 2)}
		for _, i := range p.Insts[:min(len(p.Insts), impl.MaxInsts)] {
			messages = append(messages, creationOf(impl.MaxEpoch, i.Id, i.Pool), terminationOf(impl.MaxEpoch, i.Id), creationOf(impl.MaxEpoch, i.Id+1, 1))
		}
		for _, m := range messages {
			got := outcomesOf(given, m)
			if now := wholeText(reflect.ValueOf(given)); now != before {
				t.Fatalf("the provider %s was changed to %s", before, now)
			}
			wantOwnMemory(t, "ProvDo and ProvFail", got, given, outcomesOf(given, m))
			// The same without spare capacity: nothing behind the list is read.
			if plain := outcomesOf(p, m); fmt.Sprint(got) != fmt.Sprint(plain) {
				t.Errorf("the results for %+v depend on what is behind %+v: %+v, %+v", m, p, got, plain)
			}
		}
	}
}
