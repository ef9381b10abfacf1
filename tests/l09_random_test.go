package tests

import (
	"fmt"
	"maps"
	"math/rand"
	"slices"
	"testing"

	"loop.example/g00718/impl"
)

// The model also compares clusters and tells what is feasible, in a second way.

func (m *model) movesTo(to *model) []impl.Move {
	var out []impl.Move
	for id := range impl.MaxId + 1 {
		if m.task(id) >= 0 && to.task(id) >= 0 && m.where[id] != to.where[id] {
			out = append(out, moveOf(id, m.where[id], to.where[id]))
		}
	}
	return out
}

// fits binds everything once more, to nodes that are not cordoned.
func (m *model) fits() bool {
	out := m.copy()
	clear(out.where)
	for id := range m.nodes {
		out.cordon(id, false)
	}
	for task, node := range m.where {
		if out.bind(impl.Bind{Task: task, Node: node}) != impl.DoFine {
			return false
		}
	}
	return true
}

// move returns what is wrong first, or nothing.
func (m *model) move(list []impl.Move) string {
	was, moved := maps.Clone(m.where), map[int]bool{}
	for _, v := range list {
		switch {
		case moved[v.Task]:
			return "a task twice"
		case m.task(v.Task) < 0:
			return "no such task"
		case was[v.Task] != v.From:
			return "another From"
		case v.To < 0:
			return "a negative To"
		}
		moved[v.Task] = true
		delete(m.where, v.Task)
		if v.To > 0 {
			m.where[v.Task] = v.To
		}
	}
	if !m.fits() {
		return "not valid"
	}
	return ""
}

func valOf(n impl.Node, key int) int {
	for _, l := range n.Labs {
		if l.Key == key {
			return l.Val
		}
	}
	return -1
}

func (m *model) spread(key int) []impl.Share {
	var out []impl.Share
	for val := range 10 {
		s := shareOf(val, 0, 0)
		for id, n := range m.nodes {
			if valOf(n, key) != val {
				continue
			}
			s.Nodes++
			for _, on := range m.where {
				if on == id {
					s.Tasks++
				}
			}
		}
		if s.Nodes > 0 {
			out = append(out, s)
		}
	}
	return out
}

// slot is a node, which may have the Id of another one, and what is used of it.
type slot struct {
	node impl.Node
	used impl.Res
}

func (s slot) score(t impl.Task) int {
	sum, need := s.used, t.Need
	sum = amounts(sum.Cpu+need.Cpu, sum.Mem+need.Mem, sum.Pods+need.Pods)
	if s.node.Cordon || !impl.CanHost(s.node, t) || !impl.ResFits(sum, s.node.Cap) {
		return -1
	}
	return impl.ResShare(sum, s.node.Cap)
}

func (m *model) fill(list []impl.Pool) []int {
	var slots []slot
	for _, id := range slices.Sorted(maps.Keys(m.nodes)) {
		slots = append(slots, slot{m.nodes[id], m.used(id)})
	}
	for _, p := range list {
		for number := m.count(p.Id); number < p.Max; number++ {
			slots = append(slots, slot{p.Shape, impl.Res{}})
		}
	}
	var ids []int
	for _, id := range m.queue() {
		t := m.tasks[m.task(id)]
		best, greatest := -1, -1
		for at, s := range slots {
			if score := s.score(t); score > greatest {
				best, greatest = at, score
			}
		}
		if best >= 0 {
			used := &slots[best].used
			*used = amounts(used.Cpu+t.Need.Cpu, used.Mem+t.Need.Mem, used.Pods+t.Need.Pods)
			ids = append(ids, id)
		}
	}
	return ids
}

// mayHost asks whether a node, or a Shape of which there may be a node, would
// take the task if it were alone and not cordoned.
func (m *model) mayHost(list []impl.Pool, task int) bool {
	at := m.task(task)
	if at < 0 {
		return false
	}
	nodes := slices.Collect(maps.Values(m.nodes))
	for _, p := range list {
		nodes = append(nodes, slices.Repeat([]impl.Node{p.Shape}, min(p.Max, 1))...)
	}
	return slices.ContainsFunc(nodes, func(n impl.Node) bool {
		n.Cordon = false
		return slot{n, impl.Res{}}.score(m.tasks[at]) >= 0
	})
}

func (m *model) lost(node int) []int {
	var ids []int
	for id := range impl.MaxId + 1 {
		after := m.copy()
		if after.dropNode(node) == impl.DoFine && m.where[id] == node && after.pick(id) == 0 {
			ids = append(ids, id)
		}
	}
	return ids
}

// rebound makes a cluster with the same tasks and nodes. Some tasks are where
// they were, and nodes that are cordoned may have new ones.
func (l luck) rebound(c impl.Cluster) impl.Cluster {
	m := modelOf(c)
	for id := range m.nodes {
		m.cordon(id, false)
	}
	for _, at := range l.Perm(len(c.Tasks)) {
		if l.Intn(4) > 0 {
			m.unbind(c.Tasks[at].Id)
		}
	}
	for _, at := range l.Perm(len(c.Tasks)) {
		for range l.Intn(6) * min(1, len(c.Nodes)) {
			m.bind(impl.Bind{Task: c.Tasks[at].Id, Node: c.Nodes[l.Intn(len(c.Nodes))].Id})
		}
	}
	return impl.Cluster{Tasks: c.Tasks, Nodes: c.Nodes, Binds: m.cluster().Binds}
}

func (l luck) moves(c impl.Cluster) []impl.Move {
	var out []impl.Move
	places := []int{0, 0}
	for _, n := range c.Nodes {
		places = append(places, n.Id)
	}
	for _, at := range l.Perm(len(c.Tasks))[:l.Intn(len(c.Tasks)+1)] {
		id := c.Tasks[at].Id
		m := moveOf(id, impl.NodeOf(c, id), l.oneOf(places...))
		if l.Intn(3) == 0 {
			m.To = m.From
		}
		switch l.Intn(60) {
		case 0:
			m.From = l.oneOf(places...)
		case 1:
			m.To = l.oneOf(-1, -m.To, impl.MaxId, impl.MaxId+1)
		case 2:
			m.Task = l.oneOf(-1, 0, impl.MaxId+1, 1+l.Intn(impl.MaxId))
		case 3:
			out = append(out, m)
		}
		out = append(out, m)
	}
	return out
}

// oneByOne tells whether the moves could also be made with BindDrop and BindAdd.
func oneByOne(c impl.Cluster, list []impl.Move) bool {
	for _, m := range list {
		code := impl.DoFine
		if m.From > 0 {
			c, code = impl.BindDrop(c, m.Task)
		}
		if m.To > 0 && code == impl.DoFine {
			c, code = impl.BindAdd(c, impl.Bind{Task: m.Task, Node: m.To})
		}
		if code != impl.DoFine {
			return false
		}
	}
	return true
}

// Promise 13, first part.
func TestMovesTransformAndLeadBack(t *testing.T) {
	seen := cases{}
	for seed, a := range crowds(t) {
		l := luck{rand.New(rand.NewSource(int64(seed)))}
		b := l.rebound(a)
		before := textOf(a) + textOf(b)
		list, ok := impl.MovesOf(a, b)
		if want := modelOf(a).movesTo(modelOf(b)); !ok || !slices.Equal(list, want) {
			t.Fatalf("MovesOf %s and %s is %v, %v, want %v", textOf(a), textOf(b), list, ok, want)
		}
		for _, m := range list {
			if m.From == m.To || impl.NodeOf(a, m.Task) != m.From || impl.NodeOf(b, m.Task) != m.To {
				t.Errorf("MovesOf %s and %s contains %v", textOf(a), textOf(b), m)
			}
			seen[fmt.Sprintf("bound %v, then bound %v", m.From > 0, m.To > 0)]++
		}
		got, ok := impl.MovesDo(a, list)
		wantCluster(t, fmt.Sprintf("MovesDo of %s with %v, %v", textOf(a), list, ok), got, impl.DoFine, b)
		back, ok := impl.MovesDo(b, reversed(list))
		wantCluster(t, fmt.Sprintf("MovesDo of %s with %v, %v", textOf(b), reversed(list), ok), back, impl.DoFine, a)
		// The order of the moves does not matter.
		l.Shuffle(len(list), func(i, j int) { list[i], list[j] = list[j], list[i] })
		got, _ = impl.MovesDo(a, list)
		wantCluster(t, fmt.Sprintf("MovesDo of %s with %v", textOf(a), list), got, impl.DoFine, b)
		seen[fmt.Sprint("moves: ", min(len(list), 4))]++
		seen[fmt.Sprint("one by one: ", oneByOne(a, list))]++
		seen[fmt.Sprint("tasks that stay: ", len(list) < len(a.Tasks))]++
		if before != textOf(a)+textOf(b) {
			t.Errorf("%s was changed", before)
		}
		if t.Failed() {
			return
		}
	}
	seen.want(t, "bound false, then bound true", "bound true, then bound false", "bound true, then bound true", "moves: 0", "moves: 1", "moves: 2", "moves: 3", "moves: 4",
		"one by one: true", "one by one: false", "tasks that stay: true", "tasks that stay: false")
}

// Clusters that have some tasks in common, if any.
func TestMovesOfDifferentClustersAgainstTheModel(t *testing.T) {
	seen := cases{}
	all := crowds(t)
	for at, a := range all {
		b := all[(at+1)%len(all)]
		list, ok := impl.MovesOf(a, b)
		if want := modelOf(a).movesTo(modelOf(b)); !ok || !slices.Equal(list, want) {
			t.Fatalf("MovesOf %s and %s is %v, %v, want %v", textOf(a), textOf(b), list, ok, want)
		}
		back, ok := impl.MovesOf(b, a)
		if !ok || !slices.Equal(back, reversed(list)) {
			t.Fatalf("MovesOf %s and %s is %v, in reverse %v, %v", textOf(a), textOf(b), list, back, ok)
		}
		seen[fmt.Sprint("moves: ", min(len(list), 2))]++
	}
	seen.want(t, "moves: 0", "moves: 1", "moves: 2")
}

func TestMovesDoAgainstTheModel(t *testing.T) {
	seen := cases{}
	for seed, c := range crowds(t) {
		l := luck{rand.New(rand.NewSource(int64(seed)))}
		for range 10 {
			list := l.moves(c)
			before, given := textOf(c), slices.Clone(list)
			got, ok := impl.MovesDo(c, list)
			m := modelOf(c)
			wrong := m.move(list)
			what := fmt.Sprintf("MovesDo of %s with %v", before, list)
			if ok != (wrong == "") || textOf(c) != before || !slices.Equal(given, list) {
				t.Fatalf("%s is %v, want %q", what, ok, wrong)
			}
			seen["wrong: "+wrong]++
			if !ok {
				wantNoCluster(t, what, got)
				continue
			}
			wantCluster(t, what, got, impl.DoFine, m.cluster())
			seen[fmt.Sprint("done, with moves: ", min(len(list), 3))]++
			if back, ok := impl.MovesDo(got, reversed(list)); !ok || textOf(back) != before {
				t.Fatalf("%s leads to %s, and in reverse to %s", what, textOf(got), textOf(back))
			}
		}
	}
	seen.want(t, "wrong: ", "wrong: a task twice", "wrong: no such task", "wrong: another From", "wrong: a negative To", "wrong: not valid",
		"done, with moves: 0", "done, with moves: 1", "done, with moves: 2", "done, with moves: 3")
}

// Promise 13, second part.
func TestSharesOfLabelsCountEverythingOnce(t *testing.T) {
	seen := cases{}
	for _, c := range append(crowds(t), validClusters()...) {
		m := modelOf(c)
		for key := -1; key <= 10; key++ {
			got := impl.SpreadOf(c, key)
			what := fmt.Sprintf("SpreadOf(%d) of %s is %v", key, textOf(c), got)
			if want := m.spread(key); !slices.Equal(got, want) {
				t.Fatalf("%s, want %v", what, want)
			}
			nodes, tasks, most, least := 0, 0, 0, impl.MaxTasks
			for _, s := range got {
				nodes, tasks, most, least = nodes+s.Nodes, tasks+s.Tasks, max(most, s.Tasks), min(least, s.Tasks)
			}
			allNodes, allTasks := 0, 0
			for _, n := range c.Nodes {
				if _, has := impl.LabsGet(n.Labs, key); has {
					allNodes++
					allTasks += len(slices.DeleteFunc(slices.Clone(c.Tasks), func(task impl.Task) bool { return impl.NodeOf(c, task.Id) != n.Id }))
				}
			}
			if nodes != allNodes || tasks != allTasks {
				t.Fatalf("%s, but there are %d nodes with %d tasks", what, allNodes, allTasks)
			}
			wantInt(t, "Skew where "+what, impl.Skew(c, key), max(0, most-least))
			seen[fmt.Sprintf("%d values, skewed %v", min(len(got), 2), most > least)]++
			seen[fmt.Sprint("all nodes counted: ", nodes == len(c.Nodes))]++
		}
	}
	seen.want(t, "0 values, skewed false", "1 values, skewed false", "2 values, skewed false", "2 values, skewed true", "all nodes counted: true", "all nodes counted: false")
}

// Promise 13, third part: neither PlaceAll nor Fill nor Settle, whatever the
// kind and the limit are, places a task that is hopeless.
func TestHopelessTasksAreNeverPlaced(t *testing.T) {
	seen := cases{}
	for _, p := range plans(t) {
		m := modelOf(p.c)
		before := p.text()
		hopeless, filled := impl.Hopeless(p.c, p.list), impl.Fill(p.c, p.list)
		wantInts(t, "Fill of "+before, filled, m.fill(p.list)...)
		wantInts(t, "Hopeless of "+before, hopeless, slices.DeleteFunc(m.queue(), func(id int) bool { return m.mayHost(p.list, id) })...)
		for _, id := range taskIds(p.c) {
			may := m.mayHost(p.list, id)
			if impl.MayHost(p.c, p.list, id) != may {
				t.Errorf("MayHost(%d) of %s is %v", id, before, !may)
			}
			if !may && impl.NodeOf(p.c, id) > 0 {
				t.Errorf("MayHost(%d) of %s is false, where it is bound", id, before)
			}
			seen[fmt.Sprint("may be hosted: ", may)]++
		}
		wantNeverPlaced(t, p, hopeless, filled, seen)
		if p.text() != before {
			t.Errorf("%s was changed to %s", before, p.text())
		}
		if t.Failed() {
			return
		}
	}
	seen.want(t, "may be hosted: true", "may be hosted: false", "hopeless: 0", "hopeless: 1", "hopeless: 2", "filled: 0", "filled: 1", "filled: 2", "filled: 3",
		"more filled than placed", "placed by Settle", "neither hopeless nor filled", "hopeless beside others")
}

func wantNeverPlaced(t *testing.T, p plan, hopeless []int, filled []int, seen cases) {
	t.Helper()
	placed, added := impl.PlaceAll(p.c)
	ends := []impl.Cluster{placed}
	for _, kind := range allKinds() {
		end := p
		end.kind, end.limit = kind, []int{p.limit, 1001, 0}[kind-1]
		c, _ := end.settle()
		ends = append(ends, c)
		if len(c.Binds) > len(placed.Binds) {
			seen["placed by Settle"]++
		}
	}
	for _, id := range hopeless {
		if slices.Contains(filled, id) || impl.Pick(p.c, id) != 0 {
			t.Errorf("Fill of %s is %v, where %d is hopeless", p.text(), filled, id)
		}
		for at, c := range ends {
			if impl.NodeOf(c, id) != 0 {
				t.Errorf("%d is hopeless in %s, but bound in the end %d, %s", id, p.text(), at, textOf(c))
			}
		}
	}
	seen[fmt.Sprint("hopeless: ", min(len(hopeless), 2))]++
	seen[fmt.Sprint("filled: ", min(len(filled), 3))]++
	if len(filled) > len(added) {
		seen["more filled than placed"]++
	}
	if len(filled)+len(hopeless) < len(impl.Queue(p.c)) {
		seen["neither hopeless nor filled"]++
	}
	if len(hopeless) > 0 && len(hopeless) < len(impl.Queue(p.c)) {
		seen["hopeless beside others"]++
	}
}

// Promise 13, fourth part.
func TestLostTasksHaveNoPick(t *testing.T) {
	seen := cases{}
	for _, c := range crowds(t) {
		m := modelOf(c)
		before := textOf(c)
		for _, node := range nodeIds(c) {
			lost := impl.Lost(c, node)
			what := fmt.Sprintf("Lost(%d) of %s", node, before)
			wantInts(t, what, lost, m.lost(node)...)
			without, code := impl.NodeDrop(c, node)
			if code != impl.DoFine {
				continue
			}
			on := 0
			for _, task := range c.Tasks {
				if impl.NodeOf(c, task.Id) != node {
					if slices.Contains(lost, task.Id) {
						t.Errorf("%s is %v: %d is not on it", what, lost, task.Id)
					}
					continue
				}
				on++
				if (impl.Pick(without, task.Id) == 0) != slices.Contains(lost, task.Id) {
					t.Errorf("%s is %v: without it the Pick of %d is %d", what, lost, task.Id, impl.Pick(without, task.Id))
				}
			}
			if _, ok := impl.Drain(c, node); !ok && len(lost) == 0 {
				seen["none lost and not drained"]++
			}
			seen[fmt.Sprintf("%d lost, others %v", min(len(lost), 2), on > len(lost))]++
		}
		if textOf(c) != before {
			t.Errorf("%s was changed", before)
		}
		if t.Failed() {
			return
		}
	}
	seen.want(t, "0 lost, others false", "0 lost, others true", "1 lost, others false", "1 lost, others true", "2 lost, others false", "2 lost, others true", "none lost and not drained")
}
