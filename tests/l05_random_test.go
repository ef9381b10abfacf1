package tests

import (
	"fmt"
	"maps"
	"math/rand"
	"slices"
	"testing"

	"loop.example/g00718/impl"
)

// The model also scales pools, in a second way.

func (m *model) count(pool int) int {
	number := 0
	for _, n := range m.nodes {
		if n.Pool == pool {
			number++
		}
	}
	return number
}

// share is that of a node on which no more is used than it has.
func (m *model) share(node int) int {
	used, capacity := m.used(node), m.nodes[node].Cap
	share := 0
	for _, f := range [][2]int{{used.Cpu, capacity.Cpu}, {used.Mem, capacity.Mem}, {used.Pods, capacity.Pods}} {
		if f[1] > 0 {
			share = max(share, 1000*f[0]/f[1])
		}
	}
	return share
}

// renumbered has the nodes 1, 2, .. in the same order, so that one more has an
// Id, whatever the Ids were.
func (m *model) renumbered() *model {
	out := newModel()
	out.tasks = slices.Clone(m.tasks)
	for at, id := range slices.Sorted(maps.Keys(m.nodes)) {
		n := m.nodes[id]
		n.Id = at + 1
		out.nodes[n.Id] = n
		for task, on := range m.where {
			if on == id {
				out.where[task] = n.Id
			}
		}
	}
	return out
}

// tried returns the Gain of the pool and the share that the added node has.
func (m *model) tried(p impl.Pool) (int, int) {
	without, with := m.copy(), m.renumbered()
	n := p.Shape
	n.Id = len(with.nodes) + 1
	with.nodes[n.Id] = n
	gain := len(with.place(with.queue())) - len(without.place(without.queue()))
	return gain, with.share(n.Id)
}

func (m *model) growPick(list []impl.Pool, kind int) int {
	if len(m.nodes) == impl.MaxNodes {
		return -1
	}
	short, best, greatest := -1, -1, 0
	for _, p := range slices.Backward(list) {
		number := m.count(p.Id)
		if number < p.Min {
			short = p.Id
		}
		gain, share := m.tried(p)
		value := []int{0, gain, share, p.Prio}[kind]
		if number < p.Max && gain > 0 && value >= greatest {
			best, greatest = p.Id, value
		}
	}
	if short >= 0 {
		return short
	}
	return best
}

func (m *model) shrinkPick(list []impl.Pool, limit int) int {
	best, least := 0, limit-1
	for _, id := range slices.Backward(slices.Sorted(maps.Keys(m.nodes))) {
		for _, p := range list {
			if p.Id == m.nodes[id].Pool && m.count(p.Id) > p.Min && m.share(id) <= least && m.copy().drain(id) {
				best, least = id, m.share(id)
			}
		}
	}
	return best
}

func (m *model) planStep(p plan) impl.Act {
	m.place(m.queue())
	pool, free := m.growPick(p.list, p.kind), p.next >= 1 && p.next <= impl.MaxId
	for id := range m.nodes {
		free = free && p.next > id
	}
	if pool >= 0 && free {
		n := p.list[slices.IndexFunc(p.list, func(q impl.Pool) bool { return q.Id == pool })].Shape
		n.Id = p.next
		m.addNode(n)
		return impl.Act{Kind: impl.ActGrow, Pool: pool, Node: p.next}
	}
	if id := m.shrinkPick(p.list, p.limit); id > 0 {
		act := impl.Act{Kind: impl.ActShrink, Pool: m.nodes[id].Pool, Node: id}
		m.drain(id)
		m.dropNode(id)
		return act
	}
	return impl.Act{}
}

// plan is what the functions of the chapter are called with.
type plan struct {
	c     impl.Cluster
	list  []impl.Pool
	kind  int
	limit int
	next  int
}

func (p plan) step() (impl.Cluster, impl.Act) {
	return impl.PlanStep(p.c, p.list, p.kind, p.limit, p.next)
}

func (p plan) settle() (impl.Cluster, []impl.Act) {
	return impl.Settle(p.c, p.list, p.kind, p.limit, p.next)
}

func (p plan) settled() bool { return impl.Settled(p.c, p.list, p.kind, p.limit) }

func (p plan) text() string {
	return fmt.Sprintf("%s with the pools %+v, the kind %d, the limit %d and the Id %d", textOf(p.c), p.list, p.kind, p.limit, p.next)
}

// greatestId is 0 without nodes.
func greatestId(c impl.Cluster) int {
	greatest := 0
	for _, n := range c.Nodes {
		greatest = max(greatest, n.Id)
	}
	return greatest
}

// pools makes a valid list. The bounds are mostly near the number of nodes that
// the pool has, and some pools of the cluster are not in the list.
func (l luck) pools(c impl.Cluster) []impl.Pool {
	var list []impl.Pool
	for id := range impl.MaxPools {
		number := modelOf(c).count(id)
		least := min(max(0, number+[]int{-9, -9, -9, -2, -1, -1, -1, 0, 0, 1, 2}[l.Intn(11)]), impl.MaxNodes)
		greatest := min(max(least, number+[]int{-1, 0, 0, 1, 1, 2, 9, 20}[l.Intn(8)]), impl.MaxNodes)
		p := impl.Pool{Id: id, Min: least, Max: greatest, Prio: []int{0, 0, 1, 1, 9}[l.Intn(5)], Shape: l.node(1, id)}
		if l.Intn(4) > 0 {
			list = append(list, p)
		}
	}
	return list
}

// next is mostly one that may be added, and sometimes close to it.
func (l luck) next(c impl.Cluster) int {
	switch greatest := greatestId(c); l.Intn(12) {
	case 0:
		return []int{-3, 0, 1, impl.MaxId, impl.MaxId + 1}[l.Intn(5)]
	case 1:
		return greatest
	case 2:
		return max(1, greatest-1)
	default:
		return greatest + 1 + l.Intn(2)
	}
}

// plans returns the same plans in every run.
func plans(t *testing.T) []plan {
	t.Helper()
	limits := []int{-5, 0, 1, 300, 500, 501, 700, 1000, 1001, 1001, 1001, 5000}
	var out []plan
	for seed := range int64(1500) {
		l := luck{rand.New(rand.NewSource(seed))}
		c := l.crowd(9, 6)
		if seed%4 == 1 {
			c = l.greedy()
		}
		if seed%30 == 0 {
			c = l.crowd(impl.MaxTasks, impl.MaxNodes)
		}
		if seed%30 == 15 {
			// Almost as many nodes as there may be, or as many.
			c.Nodes = append(c.Nodes, l.more(c, impl.MaxNodes-l.Intn(3))...)
			slices.SortFunc(c.Nodes, func(a impl.Node, b impl.Node) int { return a.Id - b.Id })
		}
		p := plan{c, l.pools(c), 1 + l.Intn(3), limits[l.Intn(len(limits))], l.next(c)}
		if !impl.ClusterOk(p.c) || !impl.PoolsOk(p.list) {
			t.Fatalf("the plan %s is not valid", p.text())
		}
		out = append(out, p)
	}
	return out
}

// greedy makes a cluster in which a Gain may be negative: a task goes to the
// added node, a large one takes the whole node that is left, and the small ones
// that would have shared it remain.
func (l luck) greedy() impl.Cluster {
	needs := []impl.Res{even(4), even(8), even(1), even(1), even(1), even(2)}
	c := impl.Cluster{Nodes: []impl.Node{{Id: 1 + l.Intn(9), Pool: l.Intn(impl.MaxPools), Cap: even(8)}}}
	for id := range 5 + l.Intn(5) {
		c.Tasks = append(c.Tasks, impl.Task{Id: id + 1, Prio: l.Intn(4), Need: needs[l.Intn(6)], Tols: []int{5, 6}})
	}
	return c
}

// more makes nodes so that there are number of them.
func (l luck) more(c impl.Cluster, number int) []impl.Node {
	var out []impl.Node
	for id := 1; len(c.Nodes)+len(out) < number; id++ {
		if !slices.ContainsFunc(c.Nodes, func(n impl.Node) bool { return n.Id == id }) {
			out = append(out, l.node(id, l.Intn(impl.MaxPools)))
		}
	}
	return out
}

// Promise 8, first part.
func TestGrowPickAgainstTheGainsOfAllPools(t *testing.T) {
	seen := cases{}
	for _, p := range plans(t) {
		m := modelOf(p.c)
		before := p.text()
		for _, q := range p.list {
			gain, share := m.tried(q)
			wantInt(t, fmt.Sprintf("Gain of %+v in %s", q, before), impl.Gain(p.c, q), gain)
			wantInt(t, fmt.Sprintf("PoolCount(%d) of %s", q.Id, before), impl.PoolCount(p.c, q.Id), m.count(q.Id))
			wantTried(t, p.c, q, gain, share)
			seen[fmt.Sprint("a Gain of ", max(-1, min(gain, 3)))]++
		}
		for kind := impl.ByTasks; kind <= impl.ByPrio; kind++ {
			got := impl.GrowPick(p.c, p.list, kind)
			wantInt(t, fmt.Sprintf("GrowPick by %d of %s", kind, before), got, m.growPick(p.list, kind))
			wantGrowPick(t, p, kind, got, seen)
		}
		if p.text() != before {
			t.Errorf("%s was changed to %s", before, p.text())
		}
		if t.Failed() {
			return
		}
	}
	seen.want(t, "a Gain of -1", "a Gain of 0", "a Gain of 1", "a Gain of 2", "a Gain of 3",
		"full", "below Min: 1", "below Min: 2", "gains: 0", "gains: 1", "gains: 2", "the first of several values", "not the first pool", "at Max with a Gain", "above Max",
		"by 1, picked: true", "by 2, picked: true", "by 3, picked: true", "by 1, picked: false", "by 2, picked: false", "by 3, picked: false")
}

// wantTried adds the node for real, where there is an Id and a place for it.
func wantTried(t *testing.T, c impl.Cluster, p impl.Pool, gain int, share int) {
	t.Helper()
	id := greatestId(c) + 1
	if id > impl.MaxId || len(c.Nodes) == impl.MaxNodes {
		return
	}
	n, ok := impl.PoolNode(p, id)
	with, code := impl.NodeAdd(c, n)
	after, more := impl.PlaceAll(with)
	_, fewer := impl.PlaceAll(c)
	if !ok || code != impl.DoFine || len(more)-len(fewer) != gain {
		t.Errorf("with a node of %+v in %s the tasks %v can be placed, without it %v", p, textOf(c), more, fewer)
	}
	if shares := impl.Shares(after); shares[len(shares)-1] != share {
		t.Errorf("the shares with a node of %+v in %s are %v", p, textOf(c), shares)
	}
}

// wantGrowPick looks at the pools as the promise does: the one that is returned
// may grow, is below Min or has a Gain, and none is better.
func wantGrowPick(t *testing.T, p plan, kind int, got int, seen cases) {
	t.Helper()
	var short, gaining []int
	values := map[int]int{}
	for _, q := range p.list {
		number, gain := impl.PoolCount(p.c, q.Id), impl.Gain(p.c, q)
		if number < q.Min {
			short = append(short, q.Id)
		}
		if number < q.Max && gain > 0 {
			gaining = append(gaining, q.Id)
			_, share := modelOf(p.c).tried(q)
			values[q.Id] = []int{0, gain, share, q.Prio}[kind]
		}
		if number == q.Max && gain > 0 {
			seen["at Max with a Gain"]++
		}
		if number > q.Max {
			seen["above Max"]++
		}
	}
	what := fmt.Sprintf("GrowPick by %d of %s is %d", kind, p.text(), got)
	switch {
	case len(p.c.Nodes) == impl.MaxNodes:
		seen["full"]++
		if got != -1 {
			t.Errorf("%s in a full cluster", what)
		}
	case len(short) > 0:
		seen[fmt.Sprint("below Min: ", min(len(short), 2))]++
		if got != short[0] {
			t.Errorf("%s, but below Min are %v", what, short)
		}
	default:
		seen[fmt.Sprint("gains: ", min(len(gaining), 2))]++
		seen[fmt.Sprintf("by %d, picked: %v", kind, got >= 0)]++
		wantFirstOfGreatest(t, what, gaining, values, got, seen)
	}
}

func wantFirstOfGreatest(t *testing.T, what string, ids []int, values map[int]int, got int, seen cases) {
	t.Helper()
	if !slices.Contains(append(ids, -1), got) || got == -1 && len(ids) > 0 {
		t.Errorf("%s, want one of %v", what, ids)
	}
	for _, id := range ids {
		if values[id] > values[got] || values[id] == values[got] && id < got {
			t.Errorf("%s, but the values are %v", what, values)
		}
		if values[id] == values[got] && id > got {
			seen["the first of several values"]++
		}
		if id < got {
			seen["not the first pool"]++
		}
	}
}

// Promise 8, second part.
func TestShrinkPickAgainstTheSharesOfAllNodes(t *testing.T) {
	seen := cases{}
	for _, p := range plans(t) {
		before := p.text()
		for _, limit := range []int{p.limit, -1, 0, 1, 250, 500, 1000, 1001} {
			got := impl.ShrinkPick(p.c, p.list, limit)
			what := fmt.Sprintf("ShrinkPick below %d of %s", limit, before)
			wantInt(t, what, got, modelOf(p.c).shrinkPick(p.list, limit))
			wantShrinkPick(t, what, plan{c: p.c, list: p.list, limit: limit}, got, seen)
		}
		if p.text() != before {
			t.Errorf("%s was changed to %s", before, p.text())
		}
		if t.Failed() {
			return
		}
	}
	seen.want(t, "picked", "none", "picked with tasks", "cordoned", "the first of several shares", "not the first node", "not listed", "at Min", "below Min", "at the limit", "not drained")
}

// wantShrinkPick looks at the nodes as the promise does: the one that is
// returned can be drained, is used below the limit, its pool may shrink, and
// none is better.
func wantShrinkPick(t *testing.T, what string, p plan, got int, seen cases) {
	t.Helper()
	shares := impl.Shares(p.c)
	candidates := map[int]int{}
	for at, n := range p.c.Nodes {
		if shares[at] == p.limit {
			seen["at the limit"]++
		}
		if !mayShrinkAt(p, n, seen) || shares[at] >= p.limit {
			continue
		}
		if _, drained := impl.Drain(p.c, n.Id); drained {
			candidates[n.Id] = shares[at]
		} else {
			seen["not drained"]++
		}
	}
	if _, some := candidates[got]; some != (got != 0) || got == 0 && len(candidates) > 0 {
		t.Errorf("%s is %d, but the shares of the candidates are %v", what, got, candidates)
	}
	if got == 0 {
		seen["none"]++
		return
	}
	seen["picked"]++
	seen["picked with tasks"] += min(1, candidates[got])
	for _, n := range p.c.Nodes {
		share, some := candidates[n.Id]
		if some && (share < candidates[got] || share == candidates[got] && n.Id < got) {
			t.Errorf("%s is %d, but the shares of the candidates are %v", what, got, candidates)
		}
		if some && share == candidates[got] && n.Id > got {
			seen["the first of several shares"]++
		}
		if some && n.Id < got {
			seen["not the first node"]++
		}
		if n.Id == got && n.Cordon {
			seen["cordoned"]++
		}
	}
}

func mayShrinkAt(p plan, n impl.Node, seen cases) bool {
	at := slices.IndexFunc(p.list, func(q impl.Pool) bool { return q.Id == n.Pool })
	if at < 0 {
		seen["not listed"]++
		return false
	}
	number := impl.PoolCount(p.c, n.Pool)
	if number == p.list[at].Min {
		seen["at Min"]++
	}
	if number < p.list[at].Min {
		seen["below Min"]++
	}
	return number > p.list[at].Min
}

// Promise 8, third part.
func TestPlanStepPlacesAddsOrRemoves(t *testing.T) {
	seen := cases{}
	for _, p := range plans(t) {
		before := p.text()
		got, act := p.step()
		m := modelOf(p.c)
		if want := m.planStep(p); act != want || p.text() != before {
			t.Fatalf("the action of %s is %v, want %v", before, act, want)
		}
		wantCluster(t, "PlanStep of "+before, got, impl.DoFine, m.cluster())
		wantNoneUnbound(t, "PlanStep of "+before, p.c, got)
		wantStep(t, p, got, act, seen)
		if t.Failed() {
			return
		}
	}
	seen.want(t, "the action 0", "the action 1", "the action 2", "the action 0 and placed", "the action 1 and placed", "the action 2 and placed",
		"no Id for a pool that would grow, the action 0", "no Id for a pool that would grow, the action 2", "a bound task moved")
}

func wantNoneUnbound(t *testing.T, what string, before impl.Cluster, after impl.Cluster) {
	t.Helper()
	for _, b := range before.Binds {
		if impl.NodeOf(after, b.Task) == 0 {
			t.Errorf("%s unbinds the task %d", what, b.Task)
		}
	}
}

// mayAdd reports whether next is an Id that a new node may have.
func (p plan) mayAdd() bool { return isId(p.next) && p.next > greatestId(p.c) }

// wantStep does the same with the functions of the chapters.
func wantStep(t *testing.T, p plan, got impl.Cluster, act impl.Act, seen cases) {
	t.Helper()
	want, added := impl.PlaceAll(p.c)
	pool, node := impl.GrowPick(want, p.list, p.kind), impl.ShrinkPick(want, p.list, p.limit)
	code, ok := impl.DoFine, true
	var do impl.Act
	switch {
	case pool >= 0 && p.mayAdd():
		at := slices.IndexFunc(p.list, func(q impl.Pool) bool { return q.Id == pool })
		n, _ := impl.PoolNode(p.list[at], p.next)
		want, code = impl.NodeAdd(want, n)
		do = impl.Act{Kind: impl.ActGrow, Pool: pool, Node: p.next}
	case node > 0:
		at := slices.IndexFunc(want.Nodes, func(n impl.Node) bool { return n.Id == node })
		do = impl.Act{Kind: impl.ActShrink, Pool: want.Nodes[at].Pool, Node: node}
		for _, b := range p.c.Binds {
			if b.Node == node {
				seen["a bound task moved"]++
			}
		}
		want, ok = impl.Drain(want, node)
		want, code = impl.NodeDrop(want, node)
	}
	if act != do || code != impl.DoFine || !ok {
		t.Errorf("the action of %s is %v, want %v", p.text(), act, do)
	}
	wantCluster(t, "PlanStep of "+p.text(), got, impl.DoFine, want)
	seen[fmt.Sprint("the action ", act.Kind)]++
	seen[fmt.Sprintf("the action %d and placed", act.Kind)] += min(1, len(added))
	if pool >= 0 && !p.mayAdd() {
		seen[fmt.Sprint("no Id for a pool that would grow, the action ", act.Kind)]++
	}
}

// Promise 8, fourth part.
func TestSettleAgainstRepeatedPlanSteps(t *testing.T) {
	seen := cases{}
	for _, p := range plans(t) {
		before := p.text()
		got, acts := p.settle()
		end, want := repeated(t, p)
		wantCluster(t, "Settle of "+before, got, impl.DoFine, end.c)
		if !slices.Equal(acts, want) || p.text() != before {
			t.Errorf("the actions of %s are %v, want %v", before, acts, want)
		}
		wantNoneUnbound(t, "Settle of "+before, p.c, got)
		wantEnd(t, p, end, seen)
		// There is nothing more to be done.
		again, more := end.settle()
		wantCluster(t, "a second Settle of "+before, again, impl.DoFine, got)
		if len(more) > 0 {
			t.Errorf("a second Settle of %s does %v", before, more)
		}
		seen[fmt.Sprintf("%d actions", min(len(acts), 4))]++
		wantPoolsAtTheEnd(t, p, acts, got, seen)
		if t.Failed() {
			return
		}
	}
	seen.want(t, "0 actions", "1 actions", "2 actions", "3 actions", "4 actions", "settled, the Id was right: true", "settled, the Id was right: false",
		"not settled, the Ids ran out", "not settled, the Id was not right", "grown and shrunk")
}

// repeated applies PlanStep until it does nothing, and compares every step with
// the model.
func repeated(t *testing.T, p plan) (plan, []impl.Act) {
	t.Helper()
	var acts []impl.Act
	m := modelOf(p.c)
	for range 500 {
		before := p.text()
		c, act := p.step()
		if want := m.planStep(p); act != want {
			t.Fatalf("the action of %s is %v, want %v", before, act, want)
		}
		wantCluster(t, "PlanStep of "+before, c, impl.DoFine, m.cluster())
		wantNoneUnbound(t, "PlanStep of "+before, p.c, c)
		p.c = c
		if act.Kind == impl.ActNone {
			return p, acts
		}
		if act.Kind == impl.ActGrow {
			p.next++
		}
		acts = append(acts, act)
	}
	t.Fatalf("the actions of %s do not end", p.text())
	return p, nil
}

// wantEnd looks at how it ended: settled, unless there was no Id for a node.
func wantEnd(t *testing.T, begin plan, end plan, seen cases) {
	t.Helper()
	right := begin.mayAdd()
	switch {
	case end.settled():
		seen[fmt.Sprint("settled, the Id was right: ", right)]++
	case !right:
		seen["not settled, the Id was not right"]++
	case end.next > impl.MaxId:
		seen["not settled, the Ids ran out"]++
	default:
		t.Errorf("Settle of %s ends with %s, which is not Settled", begin.text(), end.text())
	}
	if !end.settled() && end.mayAdd() {
		t.Errorf("Settle of %s ends with %s, although a node could be added", begin.text(), end.text())
	}
}

// wantPoolsAtTheEnd: no pool shrinks below Min or grows above Max.
func wantPoolsAtTheEnd(t *testing.T, p plan, acts []impl.Act, end impl.Cluster, seen cases) {
	t.Helper()
	grew, shrank := false, false
	for _, act := range acts {
		grew, shrank = grew || act.Kind == impl.ActGrow, shrank || act.Kind == impl.ActShrink
	}
	if grew && shrank {
		seen["grown and shrunk"]++
	}
	for _, q := range p.list {
		was, is := impl.PoolCount(p.c, q.Id), impl.PoolCount(end, q.Id)
		if is < q.Min && is < was || is > q.Max && is > was {
			t.Errorf("Settle of %s leaves %d nodes of the pool %d", p.text(), is, q.Id)
		}
	}
}

func TestSettledAgainstItsParts(t *testing.T) {
	seen := cases{}
	for _, p := range plans(t) {
		for kind := impl.ByTasks; kind <= impl.ByPrio; kind++ {
			p.kind = kind
			end := p
			end.c, _ = p.settle()
			for _, q := range []plan{p, end} {
				_, added := impl.PlaceAll(q.c)
				pool, node := impl.GrowPick(q.c, q.list, kind), impl.ShrinkPick(q.c, q.list, q.limit)
				want := len(added) == 0 && pool == -1 && node == 0
				if got := q.settled(); got != want {
					t.Fatalf("Settled of %s is %v", q.text(), got)
				}
				seen[fmt.Sprintf("%v: placed %v, to grow %v, to shrink %v", want, len(added) > 0, pool >= 0, node > 0)]++
			}
		}
	}
	seen.want(t, "true: placed false, to grow false, to shrink false",
		"false: placed true, to grow false, to shrink false", "false: placed false, to grow true, to shrink false",
		"false: placed false, to grow false, to shrink true", "false: placed true, to grow true, to shrink true")
}
