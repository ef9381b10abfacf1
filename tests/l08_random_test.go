package tests

import (
	"fmt"
	"maps"
	"math/rand"
	"slices"
	"testing"

	"loop.example/g00718/impl"
)

// leaderRule is Leader of a valid world as the chapter states it.
func leaderRule(w impl.World) int {
	for who := 1; who <= impl.MaxReplicas; who++ {
		if impl.LeaseHolds(w.Lease, who, w.Epochs[who-1], w.Now) {
			return who
		}
	}
	return 0
}

func maySend(w impl.World, m impl.Msg) bool {
	for _, o := range w.Msgs {
		if o.Kind == m.Kind && o.Epoch == m.Epoch && o.Id == m.Id {
			return false
		}
	}
	return len(w.Msgs) < impl.MaxMsgs
}

// possible returns all candidates for each action of the Leader, with the Ids
// that the outcome would have.
func possible(w impl.World) map[int][]int {
	out := map[int][]int{}
	can := func(did int, id int, ok bool) {
		if ok {
			out[did] = append(out[did], id)
		}
	}
	epoch, known := w.Lease.Epoch, map[int]bool{}
	for _, v := range w.Wants {
		state := impl.ProvState(w.Prov, v.Id)
		can(impl.DidJoin, v.Id, state == impl.InstUp && len(w.Cluster.Nodes) < impl.MaxNodes)
		can(impl.DidGiveUp, v.Id, state == impl.InstGone)
		can(impl.DidAsk, v.Id, state == 0 && maySend(w, creationOf(epoch, v.Id, v.Pool)))
		known[v.Id] = true
	}
	for _, n := range w.Cluster.Nodes {
		can(impl.DidLose, n.Id, impl.ProvState(w.Prov, n.Id) != impl.InstUp)
		known[n.Id] = true
	}
	for _, i := range w.Prov.Insts {
		up := i.State == impl.InstUp && maySend(w, terminationOf(epoch, i.Id))
		can(impl.DidOrphan, i.Id, up && !known[i.Id])
		can(impl.DidEnd, i.Id, up && slices.Contains(w.Ends, i.Id))
	}
	_, added := impl.PlaceAll(w.Cluster)
	can(impl.DidPlace, 0, len(added) > 0)
	if len(w.Wants) == 0 && len(w.Ends) == 0 {
		_, act := impl.PlanStep(w.Cluster, w.Pools, w.Kind, w.Limit, w.Next)
		can(impl.DidGrow, act.Node, act.Kind == impl.ActGrow)
		can(impl.DidShrink, act.Node, act.Kind == impl.ActShrink)
	}
	return out
}

// carryOut returns the world after an action that is possible.
func carryOut(w impl.World, did int, id int) impl.World {
	out := cloneWorld(w)
	want := slices.IndexFunc(w.Wants, func(v impl.Want) bool { return v.Id == id })
	switch did {
	case impl.DidJoin:
		p := w.Pools[slices.IndexFunc(w.Pools, func(p impl.Pool) bool { return p.Id == w.Wants[want].Pool })]
		n, _ := impl.PoolNode(p, id)
		addNode(&out, n)
		dropWant(&out, id)
	case impl.DidGiveUp:
		dropWant(&out, id)
	case impl.DidLose:
		dropNode(&out, id)
	case impl.DidPlace:
		out.Cluster, _ = impl.PlaceAll(w.Cluster)
	case impl.DidAsk:
		addMsg(&out, creationOf(w.Lease.Epoch, id, w.Wants[want].Pool))
	case impl.DidOrphan, impl.DidEnd:
		addMsg(&out, terminationOf(w.Lease.Epoch, id))
	case impl.DidGrow:
		_, act := impl.PlanStep(w.Cluster, w.Pools, w.Kind, w.Limit, w.Next)
		addWant(&out, w.Next, act.Pool)
		out.Next++
	case impl.DidShrink:
		out.Cluster, _ = impl.Drain(w.Cluster, id)
		addEnd(&out, id)
	}
	return out
}

// stepRule is StepOf of a valid world and a replica as the chapter states it.
func stepRule(w impl.World, who int) (impl.World, impl.Told) {
	if leaderRule(w) != who {
		return w, impl.Told{Code: impl.WLead}
	}
	all := possible(w)
	if len(all) == 0 {
		return w, impl.Told{}
	}
	did := slices.Min(slices.Collect(maps.Keys(all)))
	id := slices.Min(all[did])
	return carryOut(w, did, id), impl.Told{Did: did, Id: id}
}

// eventRule is WorldDo of a valid world as the chapter states it.
func eventRule(w impl.World, e impl.Event) (impl.World, impl.Told) {
	out := cloneWorld(w)
	failed := func(code int) (impl.World, impl.Told) { return w, impl.Told{Code: code} }
	switch {
	case !isEvent(e):
		return failed(impl.WForm)
	case e.Kind == impl.EvTick:
		out.Now = min(w.Now+e.N, impl.MaxTime)
	case e.Kind == impl.EvTry:
		lease, code := bid{w.Lease, e.Who, w.Now, w.Span}.rule()
		if code != impl.LeadFine {
			return failed(map[int]int{impl.LeadHeld: impl.WHeld, impl.LeadFull: impl.WFull}[code])
		}
		out.Lease, out.Epochs[e.Who-1] = lease, lease.Epoch
	case e.Kind == impl.EvCrash:
		out.Epochs[e.Who-1] = 0
	case e.Kind == impl.EvTask || e.Kind == impl.EvCancel:
		m := modelOf(w.Cluster)
		code := impl.DoFine
		if e.Kind == impl.EvTask {
			code = m.addTask(e.Task)
		} else {
			code = m.dropTask(e.N)
		}
		if code != impl.DoFine {
			return failed(map[int]int{impl.DoTwice: impl.WTwice, impl.DoFull: impl.WFull, impl.DoNone: impl.WNone}[code])
		}
		out.Cluster = m.cluster()
	case e.Kind == impl.EvStep:
		return stepRule(w, e.Who)
	case e.Kind == impl.EvFail:
		if impl.ProvState(w.Prov, e.N) != impl.InstUp {
			return failed(impl.WNone)
		}
		out.Prov, _ = impl.ProvFail(w.Prov, e.N)
	default:
		return messageRule(w, e)
	}
	return out, impl.Told{}
}

// messageRule is about EvMsg and EvLose.
func messageRule(w impl.World, e impl.Event) (impl.World, impl.Told) {
	if e.N >= len(w.Msgs) {
		return w, impl.Told{Code: impl.WNone}
	}
	out, code := cloneWorld(w), impl.LeadFine
	if !e.Keep {
		out.Msgs = slices.Delete(out.Msgs, e.N, e.N+1)
	}
	if e.Kind == impl.EvMsg {
		var p impl.Prov
		if p, code = provRule(w.Prov, w.Msgs[e.N], e.Works); code == impl.LeadFine {
			out.Prov = p
		}
	}
	return out, impl.Told{Code: map[int]int{impl.LeadFine: impl.WFine, impl.LeadOld: impl.WOld, impl.LeadFull: impl.WFull, impl.LeadNone: impl.WNone}[code]}
}

// sorted returns the first of some Ids in ascending order.
func sorted(ids []int, number int) []int {
	return slices.Sorted(slices.Values(ids[:min(number, len(ids))]))
}

// world is valid. A third of the worlds is quiet: neither Wants nor Ends, and all
// machines as they should be.
func (l luck) world() impl.World {
	w := impl.World{Now: l.oneOf(0, l.Intn(100), l.Intn(impl.MaxTime), impl.MaxTime), Span: l.oneOf(1, 20, longest), Kind: 1 + l.Intn(3)}
	w.Limit = l.oneOf(0, 300, 500, 700, 1000, 1001)
	w.Next = l.oneOf(1, 2+l.Intn(10), 3+l.Intn(30), 3+l.Intn(30), 3+l.Intn(30), 2+l.Intn(impl.MaxId), impl.MaxId, impl.MaxId+1)
	ids := l.Perm(w.Next - 1)
	for at := range ids {
		ids[at]++
	}
	nodes := l.oneOf(4, 6, 6, impl.MaxNodes)
	w.Cluster = renumber(l.crowd(l.oneOf(4, 9, 9, impl.MaxTasks), min(nodes, len(ids))), ids)
	if nodes == impl.MaxNodes && l.Intn(2) == 0 {
		w.Cluster.Nodes = renumber(impl.Cluster{Nodes: l.more(impl.Cluster{}, min(nodes, len(ids)))}, ids).Nodes
		w.Cluster.Binds = nil
	}
	if l.Intn(25) == 0 {
		w.Cluster = l.crammed(w.Cluster)
	}
	w.Pools = l.pools(w.Cluster)
	l.lead(&w)
	l.fill(&w, ids[len(w.Cluster.Nodes):], l.Intn(3) == 0)
	l.send(&w)
	return w
}

// crammed adds as many tasks as there may be, or one less.
func (l luck) crammed(c impl.Cluster) impl.Cluster {
	m, number := modelOf(c), impl.MaxTasks-l.Intn(2)
	for id := 1; len(m.tasks) < number; id++ {
		m.addTask(taskOf(id, l.Intn(4), even(l.Intn(4))))
	}
	return m.cluster()
}

// renumber gives the nodes the first of the Ids.
func renumber(c impl.Cluster, ids []int) impl.Cluster {
	to := map[int]int{}
	for at, id := range sorted(ids, len(c.Nodes)) {
		to[c.Nodes[at].Id] = id
		c.Nodes[at].Id = id
	}
	for at := range c.Binds {
		c.Binds[at].Node = to[c.Binds[at].Node]
	}
	return c
}

// lead makes a lease that mostly has a Leader.
func (l luck) lead(w *impl.World) {
	w.Epochs = make([]int, impl.MaxReplicas)
	if l.Intn(12) == 0 {
		return
	}
	epoch := l.oneOf(1, 2, 3, 1+l.Intn(9), 1+l.Intn(impl.MaxEpoch), impl.MaxEpoch)
	w.Lease = leaseOf(1+l.Intn(impl.MaxReplicas), epoch, w.Now+l.oneOf(1, 2, 20, 20, 20, 20, 20, 0, 20))
	for at := range w.Epochs {
		w.Epochs[at] = l.oneOf(0, epoch, epoch, epoch-1, l.Intn(epoch+1))
	}
	if l.Intn(12) > 0 {
		w.Epochs[w.Lease.Who-1] = epoch
	}
	w.Prov.Seen = max(0, epoch-l.oneOf(0, 0, 0, 1, 2, epoch))
}

// fill adds Wants, Ends and instances. rest are the Ids that are no nodes.
func (l luck) fill(w *impl.World, rest []int, quiet bool) {
	wanted := l.oneOf(0, 0, 1, 1, 2, 4, impl.MaxNodes) * min(1, len(w.Pools))
	if quiet {
		wanted = 0
	}
	for _, id := range sorted(rest, wanted) {
		v := impl.Want{Id: id, Pool: w.Pools[l.Intn(len(w.Pools))].Id}
		w.Wants = append(w.Wants, v)
		l.machine(w, id, l.oneOf(v.Pool, v.Pool, v.Pool, v.Pool, 3), l.oneOf(0, 0, 0, impl.InstUp, impl.InstGone))
	}
	ending := l.Intn(2) == 0 && !quiet
	lost := l.oneOf(0, 0, 8, 30)
	for _, n := range w.Cluster.Nodes {
		if ending && l.Intn(3) == 0 {
			w.Ends = append(w.Ends, n.Id)
		}
		state := impl.InstUp
		if !quiet && l.Intn(100) < lost {
			state = l.oneOf(0, impl.InstGone)
		}
		l.machine(w, n.Id, l.oneOf(n.Pool, n.Pool, n.Pool, n.Pool, n.Pool, 2), state)
	}
	for _, id := range rest[min(wanted, len(rest)):] {
		state := l.oneOf(0, 0, 0, 0, impl.InstGone, impl.InstGone)
		if !quiet && l.Intn(20) == 0 {
			state = impl.InstUp
		}
		l.machine(w, id, l.Intn(impl.MaxPools), state)
	}
}

// machine adds an instance, if there is a state and a place for one.
func (l luck) machine(w *impl.World, id int, pool int, state int) {
	if state > 0 && len(w.Prov.Insts) < impl.MaxInsts {
		addInst(w, id, pool, state)
	}
}

// send puts messages on their way; half of them are ones that a step would send.
func (l luck) send(w *impl.World) {
	if w.Next == 1 || w.Lease.Epoch == 0 {
		return
	}
	number := l.oneOf(0, 0, 0, 1, 2, 2, 5, 9, impl.MaxMsgs-1, impl.MaxMsgs)
	for range number {
		epoch := max(1, w.Lease.Epoch-l.oneOf(0, 0, 0, 1, 3, l.Intn(w.Lease.Epoch)))
		m := terminationOf(epoch, 1+l.Intn(w.Next-1))
		if l.Intn(2) == 0 {
			m = creationOf(epoch, m.Id, l.Intn(impl.MaxPools))
		}
		if len(w.Wants) > 0 && l.Intn(3) == 0 {
			v := w.Wants[l.Intn(len(w.Wants))]
			m = creationOf(epoch, v.Id, v.Pool)
		}
		if len(w.Ends) > 0 && l.Intn(3) == 0 {
			m = terminationOf(epoch, w.Ends[l.Intn(len(w.Ends))])
		}
		w.Msgs = append(w.Msgs, m)
	}
}

// newWorld is one of WorldNew, with pools that are not too small for tasks.
func (l luck) newWorld(t *testing.T) impl.World {
	t.Helper()
	w, ok := impl.WorldNew(l.pools(impl.Cluster{}), 1+l.Intn(3), l.oneOf(0, 300, 500, 700, 1001), l.oneOf(5, 20, longest))
	if !ok {
		t.Fatal("WorldNew returns false")
	}
	return w
}

// task is one of few Ids, which most nodes of a pool can host.
func (l luck) task() impl.Task {
	needs := []impl.Res{even(0), even(1), even(1), even(2), even(3), even(4), amounts(1, 2, 1), even(9)}
	wants := [][]impl.Lab{nil, nil, nil, nil, nil, {{Key: 1, Val: 2}}}
	return impl.Task{Id: l.oneOf(1+l.Intn(12), 1+l.Intn(12), 1+l.Intn(impl.MaxId)), Prio: l.Intn(4), Need: needs[l.Intn(8)], Want: wants[l.Intn(6)], Tols: []int{5, 6}}
}

// event is mostly valid, and about something that exists.
func (l luck) event(w impl.World) impl.Event {
	at := l.Intn(len(w.Msgs) + 1)
	if len(w.Msgs) > 0 && l.Intn(8) > 0 {
		at = l.Intn(len(w.Msgs))
	}
	at = min(at, impl.MaxMsgs-1)
	who := l.oneOf(max(1, w.Lease.Who), 1+l.Intn(impl.MaxReplicas))
	switch number := l.Intn(100); {
	case number < 34:
		return stepBy(l.oneOf(max(1, w.Lease.Who), max(1, w.Lease.Who), who))
	case number < 54:
		return deliver(at, l.Intn(5) > 0, l.Intn(3) == 0)
	case number < 60:
		return tick(l.oneOf(1, 2, w.Span, min(w.Span+1, 1000), 1+l.Intn(1000)))
	case number < 70:
		return tryOf(who)
	case number < 73:
		return crashOf(who)
	case number < 83:
		return newTask(l.task())
	case number < 89:
		return cancel(l.oneOf(1+l.Intn(12), l.task().Id))
	case number < 92:
		return loseOf(at)
	case number < 97:
		return failOf(l.oneOf(1+l.Intn(impl.MaxId), instId(w, l.Intn(100))))
	}
	all := invalidEvents()
	return all[l.Intn(len(all))]
}

// instId is the Id of an instance, if there is one.
func instId(w impl.World, number int) int {
	if len(w.Prov.Insts) == 0 {
		return 1
	}
	return w.Prov.Insts[number%len(w.Prov.Insts)].Id
}

// wantEventRule returns the results of WorldDo, which it has compared with the
// rule and with what promise 11 says.
func wantEventRule(t *testing.T, w impl.World, e impl.Event, seen cases) (impl.World, impl.Told) {
	t.Helper()
	before := cloneWorld(w)
	got, told := impl.WorldDo(w, e)
	want, outcome := eventRule(before, e)
	if told != outcome || !sameWorld(got, want) {
		t.Fatalf("WorldDo of %+v in %s is %s with %+v, want %s with %+v", e, worldText(before), worldText(got), told, worldText(want), outcome)
	}
	if !sameWorld(w, before) {
		t.Fatalf("WorldDo of %+v changed %s to %s", e, worldText(before), worldText(w))
	}
	if !impl.WorldOk(got) {
		t.Fatalf("WorldDo of %+v in %s is %s, which is not valid", e, worldText(before), worldText(got))
	}
	if got.Now < w.Now || got.Lease.Epoch < w.Lease.Epoch || got.Prov.Seen < w.Prov.Seen || got.Next < w.Next {
		t.Fatalf("WorldDo of %+v in %s is %s, where something has decreased", e, worldText(before), worldText(got))
	}
	if told.Code != impl.WFine {
		wantAtMostAMessageRemoved(t, w, got)
	}
	wantOneLeader(t, got)
	seen[fmt.Sprintf("the kind %d with the code %d", e.Kind, told.Code)]++
	if e.Kind == impl.EvStep && told.Code == impl.WFine {
		seen[fmt.Sprint("the action ", told.Did)]++
		wantOneStep(t, w, got, told, seen)
	}
	return got, told
}

func wantAtMostAMessageRemoved(t *testing.T, before impl.World, after impl.World) {
	t.Helper()
	for at := range before.Msgs {
		if len(after.Msgs) < len(before.Msgs) && slices.Equal(slices.Delete(slices.Clone(before.Msgs), at, at+1), after.Msgs) {
			after.Msgs = before.Msgs
		}
	}
	wantWorld(t, "an event that failed", after, before)
}

func wantOneLeader(t *testing.T, w impl.World) {
	t.Helper()
	number := 0
	for who := 1; who <= impl.MaxReplicas; who++ {
		if impl.LeaseHolds(w.Lease, who, w.Epochs[who-1], w.Now) {
			number++
		}
	}
	if leader := impl.Leader(w); number > 1 || leader != leaderRule(w) {
		t.Fatalf("the Leader of %s is %d, and %d replicas hold the lease", worldText(w), leader, number)
	}
}

// wantOneStep: a step sends at most one message, with the epoch of the Leader,
// and leaves the lease, the epochs and the provider alone. One that shrinks
// leaves as many nodes as the pool needs.
func wantOneStep(t *testing.T, before impl.World, after impl.World, told impl.Told, seen cases) {
	t.Helper()
	number, leader := len(before.Msgs), impl.Leader(before)
	sent := slices.Clone(after.Msgs)[min(number, len(after.Msgs)):]
	if len(sent) > 1 || !slices.Equal(before.Msgs, after.Msgs[:min(number, len(after.Msgs))]) {
		t.Fatalf("the messages %+v became %+v in a step", before.Msgs, after.Msgs)
	}
	for _, m := range sent {
		if m.Epoch != before.Epochs[leader-1] || m.Epoch != before.Lease.Epoch {
			t.Fatalf("the Leader with the epoch %d sent %+v", before.Epochs[leader-1], m)
		}
	}
	if !sameProv(before.Prov, after.Prov) || before.Lease != after.Lease || !slices.Equal(before.Epochs, after.Epochs) || before.Now != after.Now {
		t.Fatalf("a step turned %s into %s", worldText(before), worldText(after))
	}
	if told.Did == impl.DidShrink {
		wantMin(t, after, told.Id, seen)
	}
}

func wantMin(t *testing.T, w impl.World, id int, seen cases) {
	t.Helper()
	pool, left := nodeAt(&w, id).Pool, 0
	for _, n := range w.Cluster.Nodes {
		if n.Pool == pool && !slices.Contains(w.Ends, n.Id) {
			left++
		}
	}
	least := w.Pools[slices.IndexFunc(w.Pools, func(p impl.Pool) bool { return p.Id == pool })].Min
	if left < least {
		t.Fatalf("%s has only %d nodes of the pool %d", worldText(w), left, pool)
	}
	if left == least {
		seen["shrunk to Min"]++
	}
}

// Promise 11.
func TestEventsAgainstTheRule(t *testing.T) {
	seen := cases{}
	for seed := range int64(4000) {
		l := luck{rand.New(rand.NewSource(seed))}
		w := l.world()
		if !impl.WorldOk(w) {
			t.Fatalf("the world %s is not valid", worldText(w))
		}
		wantEventRule(t, w, l.event(w), seen)
		leader := leaderRule(w)
		wantInt(t, "the Leader", impl.Leader(w), leader)
		for who := 1; who <= impl.MaxReplicas; who++ {
			got, told := wantEventRule(t, w, stepBy(who), seen)
			one, same := impl.StepOf(w, who)
			wantTold(t, "StepOf", same, told)
			wantWorld(t, "StepOf", one, got)
			if who != leader {
				wantTold(t, "a step of another replica", told, impl.Told{Code: impl.WLead})
				wantWorld(t, "a step of another replica", got, w)
			}
		}
		countPairs(w, seen)
		if t.Failed() {
			return
		}
	}
	wantAllActions(t, seen)
	wantAllKinds(t, seen)
	wantAllPairs(t, seen)
}

// countPairs counts which actions of a Leader are possible in the same world, and
// which have several candidates.
func countPairs(w impl.World, seen cases) {
	if leaderRule(w) == 0 {
		return
	}
	all := possible(w)
	for a, ids := range all {
		for b := range all {
			seen[fmt.Sprintf("%d and %d", a, b)]++
		}
		if len(ids) > 1 {
			seen[fmt.Sprint("several candidates for ", a)]++
		}
	}
}

func wantAllActions(t *testing.T, seen cases) {
	t.Helper()
	for did := impl.DidNothing; did <= impl.DidShrink; did++ {
		seen.want(t, fmt.Sprint("the action ", did))
	}
}

func wantAllKinds(t *testing.T, seen cases) {
	t.Helper()
	for kind, codes := range map[int][]int{
		impl.EvTick: {impl.WFine}, impl.EvTry: {impl.WFine, impl.WHeld, impl.WFull}, impl.EvCrash: {impl.WFine},
		impl.EvTask: {impl.WFine, impl.WTwice, impl.WFull}, impl.EvCancel: {impl.WFine, impl.WNone}, impl.EvStep: {impl.WFine, impl.WLead},
		impl.EvMsg: {impl.WFine, impl.WNone, impl.WOld}, impl.EvLose: {impl.WFine, impl.WNone}, impl.EvFail: {impl.WFine, impl.WNone},
	} {
		for _, code := range codes {
			if name := fmt.Sprintf("the kind %d with the code %d", kind, code); seen[name] == 0 {
				t.Errorf("never: %s", name)
			}
		}
	}
}

// wantAllPairs: each two actions were possible together, except for those that
// exclude each other, and most had several candidates.
func wantAllPairs(t *testing.T, seen cases) {
	t.Helper()
	beginning := []int{impl.DidJoin, impl.DidGiveUp, impl.DidAsk, impl.DidEnd}
	for a := impl.DidJoin; a <= impl.DidShrink; a++ {
		for b := a + 1; b <= impl.DidShrink; b++ {
			if b < impl.DidGrow || !slices.Contains(beginning, a) && a != impl.DidGrow {
				seen.want(t, fmt.Sprintf("%d and %d", a, b))
			}
		}
		if a != impl.DidPlace && a < impl.DidGrow {
			seen.want(t, fmt.Sprint("several candidates for ", a))
		}
	}
}

func nodesAndWants(w impl.World, pool int) int {
	number := modelOf(w.Cluster).count(pool)
	for _, v := range w.Wants {
		if v.Pool == pool {
			number++
		}
	}
	return number
}

// safe makes a world without messages safe: no machine is no one's, and the pools
// may have what they have. It is as often as possible as much as there may be.
func (l luck) safe(w impl.World) impl.World {
	w.Msgs = nil
	for at := range w.Pools {
		p := &w.Pools[at]
		number := nodesAndWants(w, p.Id)
		p.Max = max(p.Max, number)
		if l.Intn(2) == 0 {
			p.Max = max(p.Min, number)
		}
	}
	pools := map[int]int{}
	for _, n := range w.Cluster.Nodes {
		pools[n.Id] = n.Pool
	}
	for _, v := range w.Wants {
		pools[v.Id] = v.Pool
	}
	for at := range w.Prov.Insts {
		i := &w.Prov.Insts[at]
		pool, known := pools[i.Id]
		if i.Pool = pool; !known {
			i.State = impl.InstGone
		}
	}
	return w
}

// wantSafe looks at a world as promise 1 does.
func wantSafe(t *testing.T, w impl.World, seen cases) {
	t.Helper()
	if !impl.WorldSafe(w) {
		t.Fatalf("WorldSafe of %s is false", worldText(w))
	}
	m := modelOf(w.Cluster)
	for _, p := range w.Pools {
		number, up := nodesAndWants(w, p.Id), impl.ProvCount(w.Prov, p.Id)
		if number > p.Max || up > p.Max {
			t.Fatalf("the pool %d of %s has %d nodes and Wants, and %d machines up", p.Id, worldText(w), number, up)
		}
		if up == p.Max && up > 1 {
			seen["as many machines as there may be"]++
		}
	}
	for _, i := range w.Prov.Insts {
		n, isNode := m.nodes[i.Id]
		wanted := isNode && n.Pool == i.Pool || slices.Contains(w.Wants, impl.Want{Id: i.Id, Pool: i.Pool})
		if i.State == impl.InstUp && !wanted {
			t.Fatalf("the machine %+v of %s is no one's", i, worldText(w))
		}
	}
	for _, n := range w.Cluster.Nodes {
		if !impl.ResFits(m.used(n.Id), n.Cap) {
			t.Fatalf("what is placed on %d in %s does not fit", n.Id, worldText(w))
		}
	}
}

// Promise 1, from new worlds and from others that are safe.
func TestWorldsStaySafe(t *testing.T) {
	seen := cases{}
	for seed := range int64(150) {
		l := luck{rand.New(rand.NewSource(seed))}
		w, number := l.newWorld(t), 150
		if seed%5 > 0 {
			w, number = l.safe(l.world()), 40
		}
		for range number {
			wantSafe(t, w, seen)
			w, _ = wantEventRule(t, w, l.event(w), seen)
		}
		wantSafe(t, w, seen)
		if t.Failed() {
			return
		}
	}
	seen.want(t, "as many machines as there may be", "shrunk to Min")
	for did := impl.DidNothing; did <= impl.DidShrink; did++ {
		// What is no one's never comes about.
		if did != impl.DidOrphan {
			seen.want(t, fmt.Sprint("the action ", did))
		}
	}
	wantAllKinds(t, seen)
}

// The chapter's faults, one after the other and many times: the messages are lost,
// delayed and duplicated, machines fail, and the Leader changes. No machine is
// leaked, until no more can be created.
func TestWorldsStaySafeUntilNoMachineIsLeft(t *testing.T) {
	seen := cases{}
	for seed := range int64(4) {
		l := luck{rand.New(rand.NewSource(seed))}
		w, _ := impl.WorldNew([]impl.Pool{poolOf(0, 1, 2, 4), poolOf(3, 0, 1, 6)}, impl.ByTasks, 500, 5)
		for id := range 4 {
			w, _ = impl.WorldDo(w, newTask(taskOf(id+1, 0, even(2+id))))
		}
		// Many machines have come and gone already.
		for w.Next < impl.MaxInsts-8 {
			addInst(&w, w.Next, 0, impl.InstGone)
			w.Next++
		}
		for range 300 {
			w, _ = wantEventRule(t, w, tryOf(1+l.Intn(impl.MaxReplicas)), seen)
			for _, e := range []impl.Event{l.event(w), stepBy(max(1, w.Lease.Who)), deliver(0, l.Intn(4) > 0, l.Intn(4) == 0), failOf(instId(w, l.Intn(100)))} {
				if e.Kind != impl.EvTick && e.Kind != impl.EvFail || l.Intn(4) == 0 {
					w, _ = wantEventRule(t, w, e, seen)
					wantSafe(t, w, seen)
				}
			}
		}
		seen[fmt.Sprintf("all machines: %v", len(w.Prov.Insts) == impl.MaxInsts)] += 10
	}
	seen.want(t, "all machines: true", fmt.Sprintf("the kind %d with the code %d", impl.EvMsg, impl.WFull))
}

// begun is a new world with tasks and one Leader, which may be in any epoch.
func (l luck) begun(t *testing.T) impl.World {
	t.Helper()
	w := l.newWorld(t)
	for range l.Intn(4) {
		w, _ = impl.WorldDo(w, tryOf(1+l.Intn(impl.MaxReplicas)))
		w, _ = impl.WorldDo(w, tick(1000))
	}
	w, _ = impl.WorldDo(w, tryOf(1+l.Intn(impl.MaxReplicas)))
	for range l.oneOf(0, 3, 9, 40) {
		w, _ = impl.WorldDo(w, newTask(l.task()))
	}
	return w
}

// Promise 2.
func TestNewWorldsConverge(t *testing.T) {
	seen := cases{}
	for seed := range int64(300) {
		l := luck{rand.New(rand.NewSource(seed))}
		w := l.begun(t)
		leader := impl.Leader(w)
		got, rounds := impl.Calm(w, leader)
		want, acts := impl.Settle(w.Cluster, w.Pools, w.Kind, w.Limit, 1)
		wantCluster(t, "Calm of "+worldText(w), got.Cluster, impl.DoFine, want)
		if rounds < 1 || rounds >= 1000 || len(got.Msgs) > 0 || len(got.Wants) > 0 || len(got.Ends) > 0 || impl.Leader(got) != leader {
			t.Errorf("Calm of %s is %s after %d repetitions", worldText(w), worldText(got), rounds)
		}
		if !impl.Settled(got.Cluster, got.Pools, got.Kind, got.Limit) || !impl.WorldSafe(got) {
			t.Errorf("Calm of %s is %s", worldText(w), worldText(got))
		}
		grown, shrunk := 0, 0
		for _, act := range acts {
			if act.Kind == impl.ActGrow {
				grown++
			} else {
				shrunk++
			}
		}
		wantInt(t, "Next", got.Next, grown+1)
		wantInt(t, "the number of nodes", len(got.Cluster.Nodes), grown-shrunk)
		seen[fmt.Sprint("grown ", min(grown, 3))]++
		seen[fmt.Sprint("shrunk ", min(shrunk, 1))]++
		seen[fmt.Sprint("bound ", min(len(got.Cluster.Binds), 3))]++
		wantRest(t, got, leader)
		if t.Failed() {
			return
		}
	}
	seen.want(t, "grown 0", "grown 1", "grown 2", "grown 3", "shrunk 0", "shrunk 1", "bound 0", "bound 3")
}

// wantRest expects a world that came to rest to have no machine that no one wants,
// and to stay at rest.
func wantRest(t *testing.T, w impl.World, leader int) {
	t.Helper()
	known := modelOf(w.Cluster).nodes
	for _, v := range w.Wants {
		known[v.Id] = impl.Node{}
	}
	for _, i := range w.Prov.Insts {
		if _, wanted := known[i.Id]; i.State == impl.InstUp && !wanted {
			t.Errorf("the machine %d of %s is no one's", i.Id, worldText(w))
		}
	}
	if len(w.Msgs) > 0 {
		t.Errorf("messages are left at rest: %s", worldText(w))
	}
	for range 3 {
		after, told := impl.StepOf(w, leader)
		wantTold(t, "a step at rest", told, impl.Told{})
		wantWorld(t, "a step at rest", after, w)
	}
	again, rounds := impl.Calm(w, leader)
	wantInt(t, "the number of repetitions at rest", rounds, 1)
	wantWorld(t, "Calm at rest", again, w)
}

// Promise 12, first part, for worlds that are not new.
func TestWorldsStayAtRest(t *testing.T) {
	seen := cases{}
	for seed := range int64(250) {
		l := luck{rand.New(rand.NewSource(seed))}
		w := l.world()
		leader := impl.Leader(w)
		got, rounds := impl.Calm(w, leader)
		if leader == 0 {
			wantInt(t, "the number of repetitions without a Leader", rounds, 0)
			wantWorld(t, "Calm without a Leader", got, impl.World{})
			continue
		}
		want, same := calmRule(w, leader)
		wantInt(t, "the number of repetitions in "+worldText(w), rounds, same)
		wantWorld(t, "Calm of "+worldText(w), got, want)
		seen[fmt.Sprintf("at rest: %v", rounds < 1000)]++
		seen[fmt.Sprintf("messages: %v", len(w.Msgs) > 0)]++
		seen[fmt.Sprintf("Wants are left: %v", len(got.Wants) > 0)]++
		if rounds < 1000 {
			wantRest(t, got, leader)
		}
		if t.Failed() {
			return
		}
	}
	seen.want(t, "at rest: true", "messages: true", "messages: false", "Wants are left: false")
}

// Promise 12, third part, and the part of promise 10 about this chapter.
func TestMessagesAreDeliveredAgain(t *testing.T) {
	seen := cases{}
	for seed := range int64(300) {
		l := luck{rand.New(rand.NewSource(seed))}
		w := l.world()
		for at, m := range w.Msgs {
			works := l.Intn(2) == 0
			once, told := wantEventRule(t, w, deliver(at, works, true), seen)
			if !slices.Equal(once.Msgs, w.Msgs) {
				t.Fatalf("a message that is kept was removed from %s", worldText(w))
			}
			for _, e := range []impl.Event{deliver(at, works, true), deliver(at, !works, true)} {
				twice, again := impl.WorldDo(once, e)
				wantTold(t, "a message again", again, told)
				wantWorld(t, "a message again", twice, once)
			}
			gone, again := impl.WorldDo(once, deliver(at, !works, false))
			wantTold(t, "a message again, and not kept", again, told)
			less := with(once, func(w *impl.World) { w.Msgs = slices.Delete(w.Msgs, at, at+1) })
			wantWorld(t, "a message again, and not kept", gone, less)
			if m.Epoch < w.Prov.Seen {
				wantTold(t, "a message of an older epoch", told, impl.Told{Code: impl.WOld})
				wantWorld(t, "a message of an older epoch", once, w)
				seen["a message of an older epoch"]++
			}
		}
		if t.Failed() {
			return
		}
	}
	seen.want(t, "a message of an older epoch", fmt.Sprintf("the kind %d with the code %d", impl.EvMsg, impl.WFine), fmt.Sprintf("the kind %d with the code %d", impl.EvMsg, impl.WNone))
}

// Promise 12, fourth part.
func TestRunsCanBeSplit(t *testing.T) {
	for seed := range int64(60) {
		l := luck{rand.New(rand.NewSource(seed))}
		w := l.world()
		if seed%2 == 0 {
			w = l.begun(t)
		}
		var list []impl.Event
		for range 14 {
			list = append(list, l.event(w))
		}
		whole, all, ok := impl.WorldRun(w, list)
		wantRun(t, "a random run", w, list)
		for at := range len(list) + 1 {
			first, some, fine := impl.WorldRun(w, list[:at])
			second, others, good := impl.WorldRun(first, list[at:])
			if !ok || !fine || !good {
				t.Fatalf("a part of a run of %s returns false", worldText(w))
			}
			wantWorld(t, fmt.Sprint("a run split at ", at), second, whole)
			wantOutcomes(t, fmt.Sprint("a run split at ", at), slices.Concat(some, others), all...)
		}
		if t.Failed() {
			return
		}
	}
}
