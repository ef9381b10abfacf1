package tests

import (
	"fmt"
	"maps"
	"math/rand"
	"slices"
	"testing"

	"loop.example/g00718/impl"
)

// provRule is ProvDo of a valid provider as the chapter states it.
func provRule(p impl.Prov, m impl.Msg, works bool) (impl.Prov, int) {
	all := map[int]impl.Inst{}
	for _, i := range p.Insts {
		all[i.Id] = i
	}
	old, exists := all[m.Id]
	if !isMsg(m) {
		return impl.Prov{}, impl.LeadForm
	}
	if m.Epoch < p.Seen {
		return impl.Prov{}, impl.LeadOld
	}
	if m.Kind == impl.ActGrow && len(all) == impl.MaxInsts && !exists {
		return impl.Prov{}, impl.LeadFull
	}
	if m.Kind == impl.ActShrink && !exists {
		return impl.Prov{}, impl.LeadNone
	}
	if m.Kind == impl.ActGrow && !exists {
		all[m.Id] = instOf(m.Id, m.Pool, stateOf(works))
	}
	if m.Kind == impl.ActShrink {
		all[m.Id] = instOf(m.Id, old.Pool, impl.InstGone)
	}
	out := impl.Prov{Seen: m.Epoch}
	for _, id := range slices.Sorted(maps.Keys(all)) {
		out.Insts = append(out.Insts, all[id])
	}
	return out, impl.LeadFine
}

// wantProvRule returns the results of ProvDo, which it has compared with the rule.
func wantProvRule(t *testing.T, p impl.Prov, m impl.Msg, works bool) (impl.Prov, int) {
	t.Helper()
	got, code := impl.ProvDo(p, m, works)
	if want, wantCode := provRule(p, m, works); code != wantCode || !sameProv(got, want) {
		t.Fatalf("ProvDo of %+v, %v by %+v is %+v with the code %d, want %+v with %d", m, works, p, got, code, want, wantCode)
	}
	if !impl.ProvOk(got) {
		t.Fatalf("ProvDo of %+v, %v by %+v is %+v, which is not valid", m, works, p, got)
	}
	return got, code
}

// prov is valid. Some have as many instances as possible, or one less.
func (l luck) prov() impl.Prov {
	p := impl.Prov{Seen: l.oneOf(0, 1, 1+l.Intn(impl.MaxEpoch), 1+l.Intn(impl.MaxEpoch), impl.MaxEpoch-1, impl.MaxEpoch)}
	number := l.oneOf(0, 1, 1+l.Intn(6), l.Intn(impl.MaxInsts), impl.MaxInsts-1, impl.MaxInsts, impl.MaxInsts)
	// Among few Ids many are next to each other.
	ids := l.Perm(max(number, l.oneOf(8, impl.MaxId)))[:number]
	slices.Sort(ids)
	for _, id := range ids {
		p.Insts = append(p.Insts, instOf(id+1, l.Intn(impl.MaxPools), stateOf(l.Intn(3) > 0)))
	}
	return p
}

// message mostly has an Epoch that is accepted or nearly so, and half of the Ids
// exist.
func (l luck) message(p impl.Prov) impl.Msg {
	epoch := min(max(1, p.Seen+l.oneOf(0, 0, 0, 0, 1, 1, 5, -1)), impl.MaxEpoch)
	id := l.oneOf(1, 1+l.Intn(9), 1+l.Intn(impl.MaxId), 1+l.Intn(impl.MaxId), impl.MaxId)
	if len(p.Insts) > 0 && l.Intn(2) == 0 {
		id = p.Insts[l.Intn(len(p.Insts))].Id
	}
	m := creationOf(epoch, id, l.Intn(impl.MaxPools))
	if l.Intn(2) == 0 {
		m = terminationOf(epoch, id)
	}
	switch l.Intn(24) {
	case 0:
		m.Epoch = l.oneOf(-1, 0, 1, impl.MaxEpoch, impl.MaxEpoch+1)
	case 1:
		m.Id = l.oneOf(-1, 0, impl.MaxId+1)
	case 2:
		m.Pool = l.oneOf(-1, 0, 1, impl.MaxPools-1, impl.MaxPools)
	case 3:
		m.Kind = l.oneOf(-1, 0, impl.ActGrow, impl.ActShrink, 3)
	}
	return m
}

// wantNoFurtherEffect expects of a message that was just processed that it may be
// delivered again, and that an older one may not.
func wantNoFurtherEffect(t *testing.T, after impl.Prov, m impl.Msg) {
	t.Helper()
	for _, works := range []bool{true, false} {
		wantDone(t, after, m, works, after)
	}
	for _, epoch := range []int{1, m.Epoch / 2, m.Epoch - 1} {
		if epoch < 1 || epoch == m.Epoch {
			continue
		}
		older := m
		older.Epoch = epoch
		wantRefused(t, after, older, impl.LeadOld)
		wantRefused(t, after, creationOf(epoch, m.Id%impl.MaxId+1, 0), impl.LeadOld)
		wantRefused(t, after, terminationOf(epoch, m.Id%impl.MaxId+1), impl.LeadOld)
	}
}

// wantOtherInsts compares all instances but one.
func wantOtherInsts(t *testing.T, before impl.Prov, after impl.Prov, but int) {
	t.Helper()
	for id := range impl.MaxId + 2 {
		if was, is := impl.ProvState(before, id), impl.ProvState(after, id); id != but && was != is {
			t.Errorf("the state of %d was %d and is %d", id, was, is)
		}
	}
	same := func(i impl.Inst) bool { return i.Id == but }
	rest, left := slices.DeleteFunc(slices.Clone(before.Insts), same), slices.DeleteFunc(slices.Clone(after.Insts), same)
	if !slices.Equal(rest, left) {
		t.Errorf("the other instances were %+v and are %+v", rest, left)
	}
}

// Promise 10, first and second part.
func TestMessagesAgainstTheRule(t *testing.T) {
	seen := cases{}
	for seed := range int64(6000) {
		l := luck{rand.New(rand.NewSource(seed))}
		p := l.prov()
		if !impl.ProvOk(p) {
			t.Fatalf("the provider %+v is not valid", p)
		}
		m, works := l.message(p), l.Intn(2) == 0
		got, code := wantProvRule(t, p, m, works)
		seen[outcomeOf(m, code)]++
		if code == impl.LeadFine {
			seen[fmt.Sprintf("kind %d of state %d, works: %v", m.Kind, impl.ProvState(p, m.Id), works)]++
			wantNoFurtherEffect(t, got, m)
			wantOtherInsts(t, p, got, m.Id)
		}
		if isMsg(m) && m.Epoch < p.Seen && code != impl.LeadOld {
			t.Errorf("the code is %d", code)
		}
		if t.Failed() {
			t.Fatalf("this was %+v, %v by %+v", m, works, p)
		}
	}
	wantAllOutcomes(t, seen)
	for _, works := range []bool{true, false} {
		for _, state := range []int{0, impl.InstUp, impl.InstGone} {
			seen.want(t, fmt.Sprintf("kind %d of state %d, works: %v", impl.ActGrow, state, works))
		}
		for _, state := range []int{impl.InstUp, impl.InstGone} {
			seen.want(t, fmt.Sprintf("kind %d of state %d, works: %v", impl.ActShrink, state, works))
		}
	}
}

func outcomeOf(m impl.Msg, code int) string {
	if !isMsg(m) {
		return fmt.Sprintf("the code %d, no message", code)
	}
	return fmt.Sprintf("the code %d, kind %d", code, m.Kind)
}

func wantAllOutcomes(t *testing.T, seen cases) {
	t.Helper()
	for _, code := range []int{impl.LeadFine, impl.LeadOld, impl.LeadFull} {
		seen.want(t, outcomeOf(creationOf(1, 1, 0), code))
	}
	for _, code := range []int{impl.LeadFine, impl.LeadOld, impl.LeadNone} {
		seen.want(t, outcomeOf(terminationOf(1, 1), code))
	}
	seen.want(t, outcomeOf(impl.Msg{}, impl.LeadForm))
}

// smallProvs returns all providers of the Ids 2 and 4 and the pools 0 and 1.
func smallProvs(seen int) []impl.Prov {
	out := []impl.Prov{provOf(seen)}
	for _, id := range []int{2, 4} {
		for _, p := range out {
			for pool := range 2 {
				for _, state := range []int{impl.InstUp, impl.InstGone} {
					out = append(out, provOf(seen, append(slices.Clone(p.Insts), instOf(id, pool, state))...))
				}
			}
		}
	}
	return out
}

func TestAllMessagesToSmallProvs(t *testing.T) {
	for _, seen := range []int{0, 1, 3, impl.MaxEpoch} {
		for _, p := range smallProvs(seen) {
			for _, epoch := range []int{0, 1, seen - 1, seen, seen + 1} {
				for id := range 6 {
					for pool := range 3 {
						for kind := range 4 {
							m := impl.Msg{Kind: kind, Epoch: epoch, Id: id, Pool: pool}
							wantProvRule(t, p, m, true)
							wantProvRule(t, p, m, false)
						}
					}
				}
			}
		}
	}
}

// Promise 10, third part, for every machine that is up and every message to it.
func TestAFailedMachineNeverComesUpAgain(t *testing.T) {
	failures := 0
	for seed := range int64(400) {
		l := luck{rand.New(rand.NewSource(seed))}
		p := l.prov()
		for _, i := range p.Insts {
			if i.State != impl.InstUp {
				wantNotFailed(t, p, i.Id, impl.LeadNone)
				continue
			}
			failures++
			failed, code := impl.ProvFail(p, i.Id)
			if code != impl.LeadFine || failed.Seen != p.Seen || impl.ProvState(failed, i.Id) != impl.InstGone {
				t.Fatalf("ProvFail of %d by %+v is %+v with the code %d", i.Id, p, failed, code)
			}
			wantOtherInsts(t, p, failed, i.Id)
			for pool := range impl.MaxPools {
				want := impl.ProvCount(p, pool)
				if pool == i.Pool {
					want--
				}
				wantInt(t, "ProvCount after ProvFail", impl.ProvCount(failed, pool), want)
			}
			wantStaysGone(t, failed, i.Id)
		}
	}
	if failures < 1000 {
		t.Errorf("only %d machines failed", failures)
	}
}

// wantStaysGone tries all messages to an instance that are not older than Seen.
func wantStaysGone(t *testing.T, p impl.Prov, id int) {
	t.Helper()
	for _, epoch := range []int{max(1, p.Seen), min(p.Seen+1, impl.MaxEpoch), impl.MaxEpoch} {
		messages := []impl.Msg{terminationOf(epoch, id)}
		for pool := range impl.MaxPools {
			messages = append(messages, creationOf(epoch, id, pool))
		}
		for _, m := range messages {
			for _, works := range []bool{true, false} {
				wantDone(t, p, m, works, provOf(epoch, p.Insts...))
			}
		}
	}
}

// What is gone once stays so through any sequence of messages and failures, and
// Seen never decreases.
func TestSequencesOfMessages(t *testing.T) {
	seen := cases{}
	for seed := range int64(20) {
		l := luck{rand.New(rand.NewSource(seed))}
		p := impl.Prov{}
		gone := map[int]bool{}
		var sent []impl.Msg
		for range 3000 {
			before := p
			if l.Intn(8) == 0 {
				p = l.failure(p, seen)
			} else {
				sent = append(sent, l.message(p))
				m := sent[l.oneOf(len(sent)-1, len(sent)-1, l.Intn(len(sent)))]
				got, code := wantProvRule(t, p, m, l.Intn(4) > 0)
				seen[outcomeOf(m, code)]++
				if code == impl.LeadFine {
					p = got
				}
			}
			if p.Seen < before.Seen || len(p.Insts) < len(before.Insts) {
				t.Fatalf("%+v became %+v", before, p)
			}
			for _, i := range p.Insts {
				if gone[i.Id] && i.State != impl.InstGone {
					t.Fatalf("the machine %d came up again: %+v became %+v", i.Id, before, p)
				}
				gone[i.Id] = i.State == impl.InstGone
			}
		}
		seen[fmt.Sprintf("full: %v", len(p.Insts) == impl.MaxInsts)]++
	}
	wantAllOutcomes(t, seen)
	seen.want(t, "full: true", "a failure", "no failure")
}

// failure lets a machine fail, if the Id that it tries is one that is up.
func (l luck) failure(p impl.Prov, seen cases) impl.Prov {
	id := 1 + l.Intn(impl.MaxId)
	if len(p.Insts) > 0 && l.Intn(4) > 0 {
		id = p.Insts[l.Intn(len(p.Insts))].Id
	}
	got, code := impl.ProvFail(p, id)
	if code != impl.LeadFine {
		seen["no failure"]++
		return p
	}
	seen["a failure"]++
	return got
}
