package tests

import (
	"fmt"
	"maps"
	"math/rand"
	"slices"
	"testing"

	"loop.example/g00718/impl"
)

// The model also places tasks, in a second way: by trying.

func modelOf(c impl.Cluster) *model {
	m := newModel()
	m.tasks = slices.Clone(c.Tasks)
	for _, n := range c.Nodes {
		m.nodes[n.Id] = n
	}
	for _, b := range c.Binds {
		m.where[b.Task] = b.Node
	}
	return m
}

func (m *model) copy() *model {
	return &model{slices.Clone(m.tasks), maps.Clone(m.nodes), maps.Clone(m.where)}
}

func (m *model) score(node int, task int) int {
	n, exists := m.nodes[node]
	at := m.task(task)
	if !exists || at < 0 || n.Cordon || !impl.CanHost(n, m.tasks[at]) {
		return -1
	}
	used, need := m.used(node), m.tasks[at].Need
	share := 0
	for _, f := range [][2]int{{used.Cpu + need.Cpu, n.Cap.Cpu}, {used.Mem + need.Mem, n.Cap.Mem}, {used.Pods + need.Pods, n.Cap.Pods}} {
		if f[0] > f[1] {
			return -1
		}
		if f[1] > 0 {
			share = max(share, 1000*f[0]/f[1])
		}
	}
	return share
}

func (m *model) pick(task int) int {
	if _, bound := m.where[task]; bound {
		return 0
	}
	best, greatest := 0, 0
	for id := impl.MaxId; id >= 1; id-- {
		if score := m.score(id, task); score >= greatest {
			best, greatest = id, score
		}
	}
	return best
}

func (m *model) queue() []int {
	var ids []int
	for prio := 9; prio >= 0; prio-- {
		for _, t := range m.tasks {
			if _, bound := m.where[t.Id]; !bound && t.Prio == prio {
				ids = append(ids, t.Id)
			}
		}
	}
	return ids
}

// place binds the tasks that have a Pick and returns the added bindings.
func (m *model) place(tasks []int) []impl.Bind {
	var added []impl.Bind
	for _, id := range tasks {
		if b := (impl.Bind{Task: id, Node: m.pick(id)}); m.bind(b) == impl.DoFine {
			added = append(added, b)
		}
	}
	return added
}

func (m *model) drain(node int) bool {
	if m.cordon(node, true) != impl.DoFine {
		return false
	}
	var moving []int
	for _, t := range m.tasks {
		if m.where[t.Id] == node {
			moving = append(moving, t.Id)
		}
	}
	for _, id := range moving {
		m.unbind(id)
	}
	order := slices.DeleteFunc(m.queue(), func(id int) bool { return !slices.Contains(moving, id) })
	return len(m.place(order)) == len(moving)
}

// lessUrgent returns the tasks on the node that may become victims of the task,
// as the chapter sorts them.
func (m *model) lessUrgent(node int, task int) []int {
	var ids []int
	for prio := range m.tasks[m.task(task)].Prio {
		for id := 1; id <= impl.MaxId; id++ {
			if m.where[id] == node && m.tasks[m.task(id)].Prio == prio {
				ids = append(ids, id)
			}
		}
	}
	return ids
}

// victims tries without any, without the first one, and so on, whether the task
// can be bound.
func (m *model) victims(node int, task int) ([]int, bool) {
	if _, exists := m.nodes[node]; !exists || m.task(task) < 0 {
		return nil, false
	}
	ids := m.lessUrgent(node, task)
	for number := range len(ids) + 1 {
		after := m.copy()
		for _, id := range ids[:number] {
			after.unbind(id)
		}
		if after.bind(impl.Bind{Task: task, Node: node}) == impl.DoFine {
			return ids[:number], true
		}
	}
	return nil, false
}

func (m *model) preempt(task int) int {
	best, fewest := 0, impl.MaxTasks+1
	for id := impl.MaxId; id >= 1; id-- {
		if ids, ok := m.victims(id, task); ok && len(ids) <= fewest {
			best, fewest = id, len(ids)
		}
	}
	if best > 0 {
		ids, _ := m.victims(best, task)
		for _, id := range ids {
			m.unbind(id)
		}
		m.bind(impl.Bind{Task: task, Node: best})
	}
	return best
}

// crowd makes a valid cluster. Amounts, priorities and marks are of a few kinds
// each, so that many Scores and priorities are equal.
func (l luck) crowd(tasks int, nodes int) impl.Cluster {
	needs := []impl.Res{amounts(0, 0, 0), amounts(1, 0, 0), amounts(1, 1, 1), amounts(1, 2, 1), amounts(2, 1, 1), amounts(3, 2, 0), amounts(4, 4, 1)}
	wants := [][]impl.Lab{nil, nil, nil, nil, {{Key: 1, Val: 2}}, {{Key: 1, Val: 2}, {Key: 3, Val: 0}}}
	tols := [][]int{nil, {5}, {5}, {5, 6}, {5, 6}}
	prios := []int{0, 0, 1, 1, 2, 2, 3, 9}
	m := newModel()
	for _, at := range l.Perm(impl.MaxId)[:l.Intn(tasks+1)] {
		m.addTask(impl.Task{Id: at + 1, Prio: prios[l.Intn(8)], Need: needs[l.Intn(7)], Want: wants[l.Intn(6)], Tols: tols[l.Intn(5)]})
	}
	for _, at := range l.Perm(impl.MaxId)[:l.Intn(nodes+1)] {
		m.addNode(l.node(at+1, l.Intn(impl.MaxPools)))
	}
	ids := slices.Sorted(maps.Keys(m.nodes))
	for _, t := range m.tasks {
		// Most tasks are tried on several nodes, some on none.
		for range l.Intn(6) * min(1, len(ids)) {
			m.bind(impl.Bind{Task: t.Id, Node: ids[l.Intn(len(ids))]})
		}
	}
	for _, id := range ids {
		m.cordon(id, l.Intn(7) == 0)
	}
	return m.cluster()
}

func (l luck) node(id int, pool int) impl.Node {
	caps := []impl.Res{amounts(4, 4, 4), amounts(4, 4, 4), amounts(6, 5, 9), amounts(8, 8, 8), amounts(4, 0, 2), amounts(0, 0, 0)}
	labs := [][]impl.Lab{nil, {{Key: 1, Val: 1}}, {{Key: 1, Val: 2}}, {{Key: 1, Val: 2}, {Key: 3, Val: 0}}}
	taints := [][]int{nil, nil, nil, {5}, {5, 6}}
	return impl.Node{Id: id, Pool: pool, Cap: caps[l.Intn(6)], Labs: labs[l.Intn(4)], Taints: taints[l.Intn(5)]}
}

// crowds returns clusters of all sizes, the same ones in every run.
func crowds(t *testing.T) []impl.Cluster {
	t.Helper()
	var out []impl.Cluster
	for seed := range int64(1020) {
		l := luck{rand.New(rand.NewSource(seed))}
		c := l.crowd(9, 6)
		if seed%17 == 0 {
			c = l.crowd(impl.MaxTasks, impl.MaxNodes)
		}
		if !impl.ClusterOk(c) {
			t.Fatalf("the cluster %s is not valid", textOf(c))
		}
		out = append(out, c)
	}
	return out
}

// cases counts what the random clusters lead to, so that a test can demand that
// nothing is missing.
type cases map[string]int

func (seen cases) want(t *testing.T, names ...string) {
	t.Helper()
	for _, name := range names {
		if seen[name] < 10 {
			t.Errorf("only %d times: %s", seen[name], name)
		}
	}
}

// taskIds and nodeIds are those of a cluster and some that do not exist.
func taskIds(c impl.Cluster) []int {
	ids := []int{-1, 0, impl.MaxId + 1}
	for _, t := range c.Tasks {
		ids = append(ids, t.Id)
	}
	return ids
}

func nodeIds(c impl.Cluster) []int {
	ids := []int{-1, 0, impl.MaxId + 1}
	for _, n := range c.Nodes {
		ids = append(ids, n.Id)
	}
	return ids
}

// greatestScore returns the greatest Score of a task on any node and the nodes
// that have it.
func greatestScore(c impl.Cluster, task int) (int, []int) {
	greatest, with := -1, []int(nil)
	for id := range impl.MaxId + 1 {
		score := impl.Score(c, id, task)
		if score > greatest {
			greatest, with = score, nil
		}
		if score >= 0 && score == greatest {
			with = append(with, id)
		}
	}
	return greatest, with
}

// Promise 6, first part.
func TestPickAgainstTheScoresOfAllNodes(t *testing.T) {
	seen := cases{}
	for _, c := range crowds(t) {
		m := modelOf(c)
		for _, id := range taskIds(c) {
			for _, node := range nodeIds(c) {
				if got, want := impl.Score(c, node, id), m.score(node, id); got != want {
					t.Fatalf("Score(%d, %d) of %s is %d, want %d", node, id, textOf(c), got, want)
				}
			}
			wantPick(t, c, id, seen)
			if got, want := impl.Pick(c, id), m.pick(id); got != want {
				t.Fatalf("Pick(%d) of %s is %d, want %d", id, textOf(c), got, want)
			}
			if t.Failed() {
				return
			}
		}
	}
	seen.want(t, "several best nodes: false", "several best nodes: true", "a score of 0",
		"no pick: exists false, bound false, score false", "no pick: exists true, bound false, score false",
		"no pick: exists true, bound true, score true", "no pick: exists true, bound true, score false")
}

func wantPick(t *testing.T, c impl.Cluster, id int, seen cases) {
	t.Helper()
	pick := impl.Pick(c, id)
	what := fmt.Sprintf("Pick(%d) of %s is %d", id, textOf(c), pick)
	greatest, with := greatestScore(c, id)
	at := slices.IndexFunc(c.Tasks, func(task impl.Task) bool { return task.Id == id })
	if at < 0 || impl.NodeOf(c, id) != 0 || len(with) == 0 {
		seen[fmt.Sprintf("no pick: exists %v, bound %v, score %v", at >= 0, impl.NodeOf(c, id) != 0, len(with) > 0)]++
		if pick != 0 {
			t.Errorf("%s, want 0", what)
		}
		return
	}
	seen[fmt.Sprint("several best nodes: ", len(with) > 1)]++
	if greatest == 0 {
		seen["a score of 0"]++
	}
	if pick != with[0] {
		t.Errorf("%s, want the first of %v", what, with)
	}
	node := c.Nodes[slices.IndexFunc(c.Nodes, func(n impl.Node) bool { return n.Id == pick })]
	free, ok := impl.Free(c, pick)
	if node.Cordon || !impl.CanHost(node, c.Tasks[at]) || !ok || !impl.ResFits(c.Tasks[at].Need, free) {
		t.Errorf("%s, which does not host the task or has no room", what)
	}
	after, code := impl.BindAdd(c, impl.Bind{Task: id, Node: pick})
	if code != impl.DoFine {
		t.Errorf("%s, to which it cannot be bound: %d", what, code)
	}
	// The Score is the share that the node then has.
	if shares := impl.Shares(after); shares[slices.IndexFunc(c.Nodes, func(n impl.Node) bool { return n.Id == pick })] != greatest {
		t.Errorf("%s with the score %d, but then the shares are %v", what, greatest, shares)
	}
}

// Promise 6, second part.
func TestQueueAgainstTheUnboundTasks(t *testing.T) {
	seen := cases{}
	for _, c := range crowds(t) {
		got := impl.Queue(c)
		if want := modelOf(c).queue(); !slices.Equal(got, want) {
			t.Fatalf("Queue of %s is %v, want %v", textOf(c), got, want)
		}
		where := map[int]int{}
		for at, task := range c.Tasks {
			where[task.Id] = at
			if slices.Contains(got, task.Id) != (impl.NodeOf(c, task.Id) == 0) {
				t.Errorf("Queue of %s is %v: %d is wrong", textOf(c), got, task.Id)
			}
		}
		for at := 1; at < len(got); at++ {
			a, b := c.Tasks[where[got[at-1]]], c.Tasks[where[got[at]]]
			if a.Prio < b.Prio || a.Prio == b.Prio && where[a.Id] >= where[b.Id] {
				t.Errorf("Queue of %s is %v: %d comes before %d", textOf(c), got, a.Id, b.Id)
			}
			if a.Prio == b.Prio && a.Id > b.Id {
				seen["an order against the Ids"]++
			}
		}
		seen[fmt.Sprint("empty: ", len(got) == 0)]++
	}
	seen.want(t, "an order against the Ids", "empty: true", "empty: false")
}

// Promise 6, third part.
func TestPlaceAllKeepsAddsAndLeavesNothing(t *testing.T) {
	seen := cases{}
	for _, c := range crowds(t) {
		before := textOf(c)
		got, added := impl.PlaceAll(c)
		m := modelOf(c)
		want := m.place(m.queue())
		wantCluster(t, "PlaceAll of "+before, got, impl.DoFine, m.cluster())
		if !slices.Equal(added, want) || textOf(c) != before {
			t.Errorf("PlaceAll of %s added %v, want %v", before, added, want)
		}
		wantKept(t, c, got, added)
		for _, task := range c.Tasks {
			if node := impl.Pick(got, task.Id); node != 0 {
				t.Errorf("PlaceAll of %s leaves %d unbound, which has the Pick %d", before, task.Id, node)
			}
		}
		again, more := impl.PlaceAll(got)
		wantCluster(t, "a second PlaceAll", again, impl.DoFine, got)
		if len(more) != 0 {
			t.Errorf("a second PlaceAll of %s added %v", before, more)
		}
		seen[fmt.Sprintf("%d placed", min(len(added), 3))]++
		seen[fmt.Sprint("all placed: ", len(impl.Queue(got)) == 0)]++
		if outOfOrder(added) {
			seen["placed against the order of the Ids"]++
		}
		if t.Failed() {
			return
		}
	}
	seen.want(t, "0 placed", "1 placed", "2 placed", "3 placed", "all placed: true", "all placed: false", "placed against the order of the Ids")
}

func outOfOrder(list []impl.Bind) bool {
	return !slices.IsSortedFunc(list, func(a impl.Bind, b impl.Bind) int { return a.Task - b.Task })
}

// wantKept replays PlaceAll with Queue, Pick and BindAdd: every binding of
// before is kept, and the added ones are made in this order.
func wantKept(t *testing.T, before impl.Cluster, after impl.Cluster, added []impl.Bind) {
	t.Helper()
	for _, b := range before.Binds {
		if impl.NodeOf(after, b.Task) != b.Node {
			t.Errorf("PlaceAll of %s does not keep %v", textOf(before), b)
		}
	}
	c, rest := before, added
	for _, id := range impl.Queue(before) {
		node := impl.Pick(c, id)
		if node == 0 {
			continue
		}
		b := impl.Bind{Task: id, Node: node}
		next, code := impl.BindAdd(c, b)
		if code != impl.DoFine || len(rest) == 0 || rest[0] != b {
			t.Fatalf("PlaceAll of %s added %v, but then comes %v with the code %d", textOf(before), added, b, code)
		}
		c, rest = next, rest[1:]
	}
	if len(rest) > 0 || textOf(c) != textOf(after) {
		t.Errorf("PlaceAll of %s added %v to %s, want %s", textOf(before), added, textOf(after), textOf(c))
	}
}

// Promise 7, first part.
func TestDrainMovesTheTasksOfTheNodeAlone(t *testing.T) {
	seen := cases{}
	for _, c := range crowds(t) {
		before := textOf(c)
		for _, node := range nodeIds(c) {
			got, ok := impl.Drain(c, node)
			m := modelOf(c)
			want := m.drain(node)
			what := fmt.Sprintf("Drain(%d) of %s", node, before)
			if ok != want || textOf(c) != before {
				t.Fatalf("%s is %v, want %v", what, ok, want)
			}
			seen[fmt.Sprint("drained: ", ok)]++
			if !ok {
				wantNoCluster(t, what, got)
				continue
			}
			wantCluster(t, what, got, impl.DoFine, m.cluster())
			wantDrained(t, what, c, got, node, seen)
			if t.Failed() {
				return
			}
		}
	}
	seen.want(t, "drained: true", "drained: false", "no tasks", "several tasks", "cordoned before", "some unbound before")
}

func wantDrained(t *testing.T, what string, before impl.Cluster, after impl.Cluster, node int, seen cases) {
	t.Helper()
	moved := 0
	for _, task := range before.Tasks {
		was, is := impl.NodeOf(before, task.Id), impl.NodeOf(after, task.Id)
		if was == node {
			moved++
		}
		if was == node && (is == node || is == 0) || was != node && is != was {
			t.Errorf("%s: the task %d was on %d and is on %d", what, task.Id, was, is)
		}
	}
	for at, n := range before.Nodes {
		if after.Nodes[at].Cordon != (n.Cordon || n.Id == node) {
			t.Errorf("%s: the node %d is cordoned: %v", what, n.Id, after.Nodes[at].Cordon)
		}
		if n.Id == node && n.Cordon {
			seen["cordoned before"]++
		}
	}
	used, ok := impl.Used(after, node)
	if !ok || used != (impl.Res{}) {
		t.Errorf("%s: %v of the node is used", what, used)
	}
	if moved > 0 && len(impl.Queue(before)) > 0 {
		seen["some unbound before"]++
	}
	seen[[]string{"no tasks", "one task", "several tasks"}[min(moved, 2)]]++
}

// Promise 7, second part.
func TestVictimsWithTheLastOneLeftOut(t *testing.T) {
	seen := cases{}
	for _, c := range crowds(t) {
		m := modelOf(c)
		before := textOf(c)
		for _, node := range nodeIds(c) {
			for _, id := range taskIds(c) {
				ids, ok := impl.Victims(c, node, id)
				want, fine := m.victims(node, id)
				what := fmt.Sprintf("Victims(%d, %d) of %s", node, id, before)
				if !slices.Equal(ids, want) || ok != fine || textOf(c) != before {
					t.Fatalf("%s is %v, %v, want %v, %v", what, ids, ok, want, fine)
				}
				seen[fmt.Sprintf("%v, %d", ok, min(len(ids), 3))]++
				if ok {
					wantVictims(t, what, c, impl.Bind{Task: id, Node: node}, ids)
				} else if ids != nil {
					t.Errorf("%s is false with an empty list", what)
				}
			}
		}
	}
	seen.want(t, "true, 0", "true, 1", "true, 2", "true, 3", "false, 0")
}

// wantVictims removes one victim after the other: the binding is rejected with
// DoRoom until the last of them is removed.
func wantVictims(t *testing.T, what string, c impl.Cluster, b impl.Bind, ids []int) {
	t.Helper()
	m := modelOf(c)
	prio := m.tasks[m.task(b.Task)].Prio
	for _, id := range ids {
		if m.tasks[m.task(id)].Prio >= prio || impl.NodeOf(c, id) != b.Node {
			t.Errorf("%s contains %d", what, id)
		}
		if _, code := impl.BindAdd(c, b); code != impl.DoRoom {
			t.Errorf("%s is %v, but before %d the code is %d", what, ids, id, code)
		}
		c, _ = impl.BindDrop(c, id)
	}
	if _, code := impl.BindAdd(c, b); code != impl.DoFine {
		t.Errorf("%s is %v, but then the code is %d", what, ids, code)
	}
}

// Promise 7, third part.
func TestPreemptAgainstTheVictimsOfAllNodes(t *testing.T) {
	seen := cases{}
	for _, c := range crowds(t) {
		before := textOf(c)
		for _, id := range taskIds(c) {
			got, node := impl.Preempt(c, id)
			m := modelOf(c)
			want := m.preempt(id)
			what := fmt.Sprintf("Preempt(%d) of %s", id, before)
			if node != want || textOf(c) != before {
				t.Fatalf("%s is %d, want %d", what, node, want)
			}
			wantFewest(t, what, c, id, node, seen)
			if node == 0 {
				wantNoCluster(t, what, got)
				continue
			}
			wantCluster(t, what, got, impl.DoFine, m.cluster())
			wantPreempted(t, what, c, got, impl.Bind{Task: id, Node: node})
			if t.Failed() {
				return
			}
		}
	}
	seen.want(t, "taken false, 0 victims", "taken true, 0 victims", "taken true, 1 victims", "taken true, 2 victims", "a tie", "a tie with victims", "fewer than another", "not the Pick")
}

// wantFewest compares the numbers of victims of all nodes with that of the one
// that was taken.
func wantFewest(t *testing.T, what string, c impl.Cluster, task int, node int, seen cases) {
	t.Helper()
	least, taken := impl.Victims(c, node, task)
	if taken != (node != 0) {
		t.Errorf("%s is %d, for which Victims is %v", what, node, taken)
	}
	seen[fmt.Sprintf("taken %v, %d victims", taken, len(least))]++
	for id := range impl.MaxId + 1 {
		ids, ok := impl.Victims(c, id, task)
		if ok && (!taken || len(ids) < len(least) || len(ids) == len(least) && id < node) {
			t.Errorf("%s is %d, but on %d the victims are %v", what, node, id, ids)
		}
		if ok && len(ids) == len(least) && id != node {
			seen["a tie"]++
			seen["a tie with victims"] += min(len(ids), 1)
		}
		if ok && len(ids) > len(least) {
			seen["fewer than another"]++
		}
	}
	if pick := impl.Pick(c, task); taken && pick != 0 && pick != node {
		seen["not the Pick"]++
	}
}

func wantPreempted(t *testing.T, what string, before impl.Cluster, after impl.Cluster, b impl.Bind) {
	t.Helper()
	ids, _ := impl.Victims(before, b.Node, b.Task)
	for _, task := range before.Tasks {
		want := impl.NodeOf(before, task.Id)
		if slices.Contains(ids, task.Id) {
			want = 0
		}
		if task.Id == b.Task {
			want = b.Node
		}
		if is := impl.NodeOf(after, task.Id); is != want {
			t.Errorf("%s: the task %d is on %d, want %d", what, task.Id, is, want)
		}
	}
}

func TestSharesOfAllNodes(t *testing.T) {
	for _, c := range append(crowds(t), validClusters()...) {
		got := impl.Shares(c)
		if len(got) != len(c.Nodes) {
			t.Fatalf("Shares of %s are %v", textOf(c), got)
		}
		for at, n := range c.Nodes {
			used := modelOf(c).used(n.Id)
			if want := impl.ResShare(used, n.Cap); got[at] != want {
				t.Errorf("Shares of %s are %v, want %d of %d", textOf(c), got, want, n.Id)
			}
		}
	}
}
