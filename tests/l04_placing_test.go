package tests

import (
	"fmt"
	"reflect"
	"slices"
	"testing"

	"loop.example/g00718/impl"
)

func taskOf(id int, prio int, need impl.Res) impl.Task {
	return impl.Task{Id: id, Prio: prio, Need: need}
}

func nodeOf(id int, capacity impl.Res) impl.Node { return impl.Node{Id: id, Cap: capacity} }

func cordoned(n impl.Node) impl.Node {
	n.Cordon = true
	return n
}

// even returns a vector with three equal fields.
func even(amount int) impl.Res { return amounts(amount, amount, amount) }

func wantInt(t *testing.T, what string, got int, want int) {
	t.Helper()
	if got != want {
		t.Errorf("%s is %d, want %d", what, got, want)
	}
}

func wantInts(t *testing.T, what string, got []int, want ...int) {
	t.Helper()
	if !slices.Equal(got, want) {
		t.Errorf("%s is %v, want %v", what, got, want)
	}
}

func wantBinds(t *testing.T, what string, got []impl.Bind, want ...impl.Bind) {
	t.Helper()
	if !slices.Equal(got, want) {
		t.Errorf("%s is %v, want %v", what, got, want)
	}
}

func wantNoCluster(t *testing.T, what string, got impl.Cluster) {
	t.Helper()
	if textOf(got) != textOf(impl.Cluster{}) {
		t.Errorf("%s returns %s, want the zero value", what, textOf(got))
	}
}

func wantVictimsOf(t *testing.T, c impl.Cluster, node int, task int, want ...int) {
	t.Helper()
	got, ok := impl.Victims(c, node, task)
	if !ok || !slices.Equal(got, want) {
		t.Errorf("Victims(%d, %d) is %v, %v, want %v, true", node, task, got, ok, want)
	}
}

func wantNoVictims(t *testing.T, c impl.Cluster, node int, task int) {
	t.Helper()
	if got, ok := impl.Victims(c, node, task); ok || got != nil {
		t.Errorf("Victims(%d, %d) is %v, %v, want nil, false", node, task, got, ok)
	}
}

func wantNotDrained(t *testing.T, c impl.Cluster, node int) {
	t.Helper()
	got, ok := impl.Drain(c, node)
	if ok {
		t.Errorf("Drain(%d) of %s is true", node, textOf(c))
	}
	wantNoCluster(t, fmt.Sprint("Drain of ", node), got)
}

func wantNotPreempted(t *testing.T, c impl.Cluster, task int) {
	t.Helper()
	got, node := impl.Preempt(c, task)
	wantInt(t, fmt.Sprint("Preempt of ", task), node, 0)
	wantNoCluster(t, fmt.Sprint("Preempt of ", task), got)
}

func TestPlacingExample(t *testing.T) {
	c := impl.Cluster{
		Tasks: []impl.Task{taskOf(1, 0, amounts(3, 3, 1)), taskOf(2, 2, amounts(4, 4, 1)), taskOf(3, 1, amounts(2, 2, 1))},
		Nodes: []impl.Node{nodeOf(1, amounts(4, 4, 9)), nodeOf(2, amounts(8, 8, 9))},
	}
	wantInts(t, "Queue", impl.Queue(c), 2, 3, 1)
	got, added := impl.PlaceAll(c)
	want := c
	want.Binds = []impl.Bind{{Task: 1, Node: 2}, {Task: 2, Node: 1}, {Task: 3, Node: 2}}
	wantCluster(t, "PlaceAll", got, impl.DoFine, want)
	wantBinds(t, "what PlaceAll added", added, impl.Bind{Task: 2, Node: 1}, impl.Bind{Task: 3, Node: 2}, impl.Bind{Task: 1, Node: 2})
	wantInts(t, "Shares", impl.Shares(got), 1000, 625)
}

func TestScore(t *testing.T) {
	c := impl.Cluster{
		Tasks: []impl.Task{taskOf(1, 0, amounts(1, 0, 2)), taskOf(2, 9, amounts(2, 3, 1)), taskOf(3, 0, impl.Res{}), taskOf(4, 0, amounts(most, 0, 0))},
		Nodes: []impl.Node{nodeOf(1, amounts(9, 7, 5)), nodeOf(2, amounts(9, 9, 9)), nodeOf(3, even(most))},
		Binds: []impl.Bind{{Task: 1, Node: 1}},
	}
	for _, s := range []struct {
		what string
		node int
		task int
		want int
	}{
		{"the share of what is used and of the Need", 1, 2, 600},
		{"a field that is greater without what is used", 2, 2, 333},
		{"a task that needs nothing on a node with a task", 1, 3, 400},
		{"a task that needs nothing on a node without tasks", 2, 3, 0},
		{"a task on its own node, counted twice", 1, 1, 800},
		{"a bound task on another node", 2, 1, 222},
		{"a share that is rounded down to 0", 3, 2, 0},
		{"the greatest amount", 3, 4, 1000},
		{"the greatest amount on a small node", 2, 4, -1},
		{"no such node", 4, 2, -1},
		{"no such task", 1, 5, -1},
		{"neither", 0, 0, -1},
	} {
		wantInt(t, "Score, "+s.what, impl.Score(c, s.node, s.task), s.want)
	}
}

// The Need of a task against what is free: exactly as much, and one more in one
// field only.
func TestNeedAgainstTheFreeCapacity(t *testing.T) {
	for field := range 3 {
		for _, more := range []int{-1, 0, 1} {
			need := withField(amounts(3, 2, 4), field, []int{3, 2, 4}[field]+more)
			c := impl.Cluster{
				Tasks: []impl.Task{taskOf(7, 5, need), taskOf(6, 5, amounts(1, 2, 3))},
				Nodes: []impl.Node{nodeOf(8, amounts(4, 4, 7))},
				Binds: []impl.Bind{{Task: 6, Node: 8}},
			}
			what := fmt.Sprintf("with %d more in the field %d", more, field)
			out, added := impl.PlaceAll(c)
			preempted, node := impl.Preempt(c, 7)
			if more > 0 {
				wantInt(t, "Score "+what, impl.Score(c, 8, 7), -1)
				wantInt(t, "Pick "+what, impl.Pick(c, 7), 0)
				wantNoVictims(t, c, 8, 7)
				wantNotPreempted(t, c, 7)
				wantBinds(t, "what PlaceAll added "+what, added)
				wantCluster(t, "PlaceAll "+what, out, impl.DoFine, c)
				continue
			}
			want := c
			want.Binds = []impl.Bind{{Task: 6, Node: 8}, {Task: 7, Node: 8}}
			wantInt(t, "Score "+what, impl.Score(c, 8, 7), 1000)
			wantInt(t, "Pick "+what, impl.Pick(c, 7), 8)
			wantVictimsOf(t, c, 8, 7)
			wantInt(t, "Preempt "+what, node, 8)
			wantCluster(t, "Preempt "+what, preempted, impl.DoFine, want)
			wantBinds(t, "what PlaceAll added "+what, added, impl.Bind{Task: 7, Node: 8})
			wantCluster(t, "PlaceAll "+what, out, impl.DoFine, want)
		}
	}
}

// A field of the Cap that is 0 counts 0, and nothing of it can be needed.
func TestNodeWithoutCapacityInAField(t *testing.T) {
	for field := range 3 {
		c := impl.Cluster{
			Tasks: []impl.Task{taskOf(1, 1, withField(even(2), field, 0)), taskOf(2, 1, withField(even(2), field, 1)), taskOf(3, 1, impl.Res{})},
			Nodes: []impl.Node{nodeOf(1, withField(even(8), field, 0))},
		}
		what := fmt.Sprint(" without capacity in the field ", field)
		wantInt(t, "Score of a task that needs none of it"+what, impl.Score(c, 1, 1), 250)
		wantInt(t, "Score of a task that needs some of it"+what, impl.Score(c, 1, 2), -1)
		wantInt(t, "Score of a task that needs nothing"+what, impl.Score(c, 1, 3), 0)
		wantInt(t, "Pick of a task that needs none of it"+what, impl.Pick(c, 1), 1)
		wantInt(t, "Pick of a task that needs some of it"+what, impl.Pick(c, 2), 0)
		wantInt(t, "Pick of a task that needs nothing"+what, impl.Pick(c, 3), 1)
		wantVictimsOf(t, c, 1, 1)
		wantNoVictims(t, c, 1, 2)
		out, added := impl.PlaceAll(c)
		wantBinds(t, "what PlaceAll added"+what, added, impl.Bind{Task: 1, Node: 1}, impl.Bind{Task: 3, Node: 1})
		wantInts(t, "Shares"+what, impl.Shares(out), 250)
	}
	none := impl.Cluster{Tasks: []impl.Task{{Id: 1}}, Nodes: []impl.Node{{Id: 1}, {Id: 2}}}
	wantInt(t, "Score without any capacity", impl.Score(none, 2, 1), 0)
	wantInt(t, "Pick without any capacity", impl.Pick(none, 1), 1)
	wantInts(t, "Shares without any capacity", impl.Shares(none), 0, 0)
}

// The task needs 2 of each, so that a node has the Score 2000 / Cap.
func TestPickOfEqualScores(t *testing.T) {
	for _, p := range []struct {
		what string
		caps []int // of the nodes 11, 12, ..
		want int
	}{
		{"all equal", []int{4, 4, 4, 4}, 11},
		{"the first two", []int{4, 4, 8, 8}, 11},
		{"the first and the last", []int{4, 8, 8, 4}, 11},
		{"two in the middle", []int{8, 4, 4, 8}, 12},
		{"the last two", []int{8, 8, 4, 4}, 13},
		{"the second and the last", []int{8, 4, 8, 4}, 12},
		{"a better one after equal ones", []int{4, 4, 4, 3}, 14},
		{"a better one before equal ones", []int{3, 4, 4, 4}, 11},
		{"equal ones after one with room for nothing", []int{1, 4, 4}, 12},
		{"always better", []int{8, 6, 4, 2}, 14},
		{"always worse", []int{2, 4, 6, 8}, 11},
		{"equal after rounding", []int{3000, 3001, 2999}, 11},
		{"all rounded down to 0", []int{9000, 8000, 7000}, 11},
		{"only the last with room", []int{0, 1, 1, 9000}, 14},
		{"none with room", []int{0, 1, 1}, 0},
		{"no nodes", nil, 0},
	} {
		c := impl.Cluster{Tasks: []impl.Task{taskOf(5, 0, even(2))}}
		for at, capacity := range p.caps {
			c.Nodes = append(c.Nodes, nodeOf(11+at, even(capacity)))
		}
		wantInt(t, "Pick, "+p.what, impl.Pick(c, 5), p.want)
		out, added := impl.PlaceAll(c)
		wantInt(t, "the node after PlaceAll, "+p.what, impl.NodeOf(out, 5), p.want)
		wantInt(t, "the number of bindings that PlaceAll added, "+p.what, len(added), min(p.want, 1))
	}
}

// What is used counts: of equal nodes the fuller one is better.
func TestPickOfTheFullerNode(t *testing.T) {
	c := impl.Cluster{
		Tasks: []impl.Task{taskOf(1, 0, even(1)), taskOf(2, 0, even(2)), taskOf(3, 0, even(1)), taskOf(4, 0, even(3))},
		Nodes: []impl.Node{nodeOf(1, even(4)), nodeOf(2, even(4)), nodeOf(3, even(4))},
		Binds: []impl.Bind{{Task: 1, Node: 2}, {Task: 2, Node: 3}},
	}
	wantInt(t, "Pick of what fits everywhere", impl.Pick(c, 3), 3)
	wantInt(t, "Pick of what does not fit on the fullest", impl.Pick(c, 4), 2)
	c.Binds = c.Binds[:1]
	wantInt(t, "Pick with one task less", impl.Pick(c, 3), 2)
	c.Binds = nil
	wantInt(t, "Pick without tasks", impl.Pick(c, 3), 1)
}

// hosting has nodes that differ only in why they do not take the task 1. All of
// them would be better than node 9, and room is everywhere.
func hosting() impl.Cluster {
	return impl.Cluster{
		Tasks: []impl.Task{
			{Id: 1, Prio: 5, Need: even(2), Want: []impl.Lab{{Key: 4, Val: 1}}, Tols: []int{2, 3}},
			{Id: 2, Prio: 4, Need: even(2)},
		},
		Nodes: []impl.Node{
			{Id: 3, Cap: even(4), Labs: []impl.Lab{{Key: 4, Val: 1}}, Cordon: true},
			{Id: 4, Cap: even(4)},
			{Id: 5, Cap: even(4), Labs: []impl.Lab{{Key: 4, Val: 2}}},
			{Id: 6, Cap: even(4), Labs: []impl.Lab{{Key: 4, Val: 1}}, Taints: []int{1}},
			{Id: 7, Cap: even(4), Labs: []impl.Lab{{Key: 4, Val: 1}}, Taints: []int{2, 3, 4}},
			{Id: 9, Cap: even(8), Labs: []impl.Lab{{Key: 3, Val: 0}, {Key: 4, Val: 1}}, Taints: []int{3}},
		},
	}
}

func TestNodesThatDoNotTakeATask(t *testing.T) {
	c := hosting()
	for _, node := range []int{3, 4, 5, 6, 7} {
		wantInt(t, fmt.Sprint("Score on ", node), impl.Score(c, node, 1), -1)
		wantNoVictims(t, c, node, 1)
	}
	wantInt(t, "Score on 9", impl.Score(c, 9, 1), 250)
	wantVictimsOf(t, c, 9, 1)
	wantInt(t, "Pick", impl.Pick(c, 1), 9)
	want := c
	want.Binds = []impl.Bind{{Task: 1, Node: 9}}
	got, node := impl.Preempt(c, 1)
	wantInt(t, "Preempt", node, 9)
	wantCluster(t, "Preempt", got, impl.DoFine, want)
	_, added := impl.PlaceAll(c)
	wantBinds(t, "what PlaceAll added", added, impl.Bind{Task: 1, Node: 9}, impl.Bind{Task: 2, Node: 4})
	// Without the cordon the node 3 is the better one, and has the smaller Id.
	c.Nodes[0].Cordon = false
	wantInt(t, "Score without the cordon", impl.Score(c, 3, 1), 500)
	wantInt(t, "Pick without the cordon", impl.Pick(c, 1), 3)
	_, node = impl.Preempt(c, 1)
	wantInt(t, "Preempt without the cordon", node, 3)
	// With the last one cordoned too there is none.
	c.Nodes[0].Cordon, c.Nodes[5].Cordon = true, true
	wantInt(t, "Pick with all cordoned", impl.Pick(c, 1), 0)
	wantNotPreempted(t, c, 1)
}

func TestQueue(t *testing.T) {
	c := impl.Cluster{
		Tasks: []impl.Task{{Id: 9, Prio: 1}, {Id: 4, Prio: 3}, {Id: 7, Prio: 1}, {Id: 8}, {Id: 2, Prio: 9}, {Id: 1, Prio: 1}, {Id: 3, Prio: 3}, {Id: 6}},
		Nodes: []impl.Node{{Id: 1}},
	}
	wantInts(t, "Queue", impl.Queue(c), 2, 4, 3, 9, 7, 1, 8, 6)
	c.Binds = []impl.Bind{{Task: 2, Node: 1}, {Task: 7, Node: 1}}
	wantInts(t, "Queue with bound tasks", impl.Queue(c), 4, 3, 9, 1, 8, 6)
	for _, task := range []int{1, 3, 4, 6, 8, 9} {
		c, _ = impl.BindAdd(c, impl.Bind{Task: task, Node: 1})
	}
	wantInts(t, "Queue with all bound", impl.Queue(c))
	wantInts(t, "Queue of the empty cluster", impl.Queue(impl.Cluster{}))
	// More tasks than a sort by insertion handles, with all priorities equal.
	same := impl.Cluster{Tasks: tasksUpTo(impl.MaxTasks)}
	slices.Reverse(same.Tasks)
	var want []int
	for at := range same.Tasks {
		same.Tasks[at].Prio = 4
		want = append(want, impl.MaxTasks-at)
	}
	wantInts(t, "Queue of equal priorities", impl.Queue(same), want...)
}

// The more urgent task comes first, wherever it is in Tasks, and of equally
// urgent ones the first, whatever its Id: the node has room for one of them.
func TestPlaceAllOrder(t *testing.T) {
	for _, p := range []struct {
		what  string
		tasks []impl.Task
		want  int
	}{
		{"the greater Prio first", []impl.Task{taskOf(1, 7, even(2)), taskOf(2, 6, even(2))}, 1},
		{"the greater Prio last", []impl.Task{taskOf(1, 6, even(2)), taskOf(2, 7, even(2))}, 2},
		{"equal, the smaller Id first", []impl.Task{taskOf(1, 6, even(2)), taskOf(2, 6, even(2))}, 1},
		{"equal, the greater Id first", []impl.Task{taskOf(2, 6, even(2)), taskOf(1, 6, even(2))}, 2},
		{"equal, the larger one first", []impl.Task{taskOf(2, 0, even(3)), taskOf(1, 0, even(2))}, 2},
		{"the more urgent one has no room", []impl.Task{taskOf(2, 9, even(4)), taskOf(1, 0, even(2))}, 1},
	} {
		c := impl.Cluster{Tasks: p.tasks, Nodes: []impl.Node{nodeOf(5, even(3))}}
		want := c
		want.Binds = []impl.Bind{{Task: p.want, Node: 5}}
		got, added := impl.PlaceAll(c)
		wantCluster(t, "PlaceAll, "+p.what, got, impl.DoFine, want)
		wantBinds(t, "what PlaceAll added, "+p.what, added, want.Binds...)
	}
}

// Every binding changes the Picks of the tasks that follow.
func TestPlaceAllPicksOneAfterTheOther(t *testing.T) {
	c := impl.Cluster{
		Tasks: []impl.Task{taskOf(30, 0, even(1)), taskOf(20, 5, even(2)), taskOf(10, 5, even(2)), taskOf(40, 5, even(1)), taskOf(50, 9, even(3))},
		Nodes: []impl.Node{nodeOf(1, even(4)), nodeOf(2, even(4)), cordoned(nodeOf(3, even(4)))},
		Binds: []impl.Bind{{Task: 40, Node: 3}},
	}
	want := c
	want.Binds = []impl.Bind{{Task: 10, Node: 2}, {Task: 20, Node: 2}, {Task: 30, Node: 1}, {Task: 40, Node: 3}, {Task: 50, Node: 1}}
	got, added := impl.PlaceAll(c)
	wantCluster(t, "PlaceAll", got, impl.DoFine, want)
	wantBinds(t, "what PlaceAll added", added, impl.Bind{Task: 50, Node: 1}, impl.Bind{Task: 20, Node: 2}, impl.Bind{Task: 10, Node: 2}, impl.Bind{Task: 30, Node: 1})
	wantInts(t, "Shares", impl.Shares(got), 1000, 1000, 250)
	for _, c := range validClusters() {
		out, added := impl.PlaceAll(c)
		again, more := impl.PlaceAll(out)
		wantCluster(t, "a second PlaceAll", again, impl.DoFine, out)
		wantBinds(t, "what a second PlaceAll added", more)
		wantInt(t, "the number of bindings", len(out.Binds), len(c.Binds)+len(added))
	}
}

// movable has three nodes that can exchange their tasks. Node 4 has three tasks,
// of which 12 is the most urgent and 31 comes before 11 in Tasks; the tasks 2
// and 50 are not bound.
func movable() impl.Cluster {
	return impl.Cluster{
		Tasks: []impl.Task{taskOf(31, 1, even(1)), taskOf(2, 9, even(2)), taskOf(11, 1, even(1)), taskOf(12, 5, even(2)), taskOf(40, 0, even(1)), taskOf(50, 0, impl.Res{})},
		Nodes: []impl.Node{nodeOf(3, even(4)), nodeOf(4, even(8)), nodeOf(6, even(4))},
		Binds: []impl.Bind{{Task: 11, Node: 4}, {Task: 12, Node: 4}, {Task: 31, Node: 4}, {Task: 40, Node: 6}},
	}
}

// The unbound task 2 is more urgent than all that move, and would take the room
// of two of them; it stays unbound.
func TestDrain(t *testing.T) {
	want := movable()
	want.Nodes[1].Cordon = true
	want.Binds = []impl.Bind{{Task: 11, Node: 3}, {Task: 12, Node: 6}, {Task: 31, Node: 6}, {Task: 40, Node: 6}}
	got, ok := impl.Drain(movable(), 4)
	if !ok {
		t.Fatal("Drain is false")
	}
	wantCluster(t, "Drain", got, impl.DoFine, want)
	wantInts(t, "Queue after Drain", impl.Queue(got), 2, 50)
	// It can be drained once more, which changes nothing.
	again, ok := impl.Drain(got, 4)
	if !ok {
		t.Error("a second Drain is false")
	}
	wantCluster(t, "a second Drain", again, impl.DoFine, want)
}

// In the order of Tasks 31 comes before 11: it takes the last place on the
// fuller node. With the order exchanged 11 does.
func TestDrainInTheOrderOfTheQueue(t *testing.T) {
	c := movable()
	c.Tasks[0], c.Tasks[2] = c.Tasks[2], c.Tasks[0]
	want := c
	want.Nodes = exchanged(c.Nodes, 1, func(n *impl.Node) { n.Cordon = true })
	want.Binds = []impl.Bind{{Task: 11, Node: 6}, {Task: 12, Node: 6}, {Task: 31, Node: 3}, {Task: 40, Node: 6}}
	got, ok := impl.Drain(c, 4)
	wantCluster(t, "Drain in the other order", got, impl.DoFine, want)
	// A task that needs more and is less urgent finds less room.
	c.Tasks[3].Prio = 0
	want.Tasks = c.Tasks
	want.Binds = []impl.Bind{{Task: 11, Node: 6}, {Task: 12, Node: 3}, {Task: 31, Node: 6}, {Task: 40, Node: 6}}
	got, fine := impl.Drain(c, 4)
	wantCluster(t, "Drain with another Prio", got, impl.DoFine, want)
	if !ok || !fine {
		t.Error("Drain is false")
	}
}

func TestDrainOfNodeWithoutTasks(t *testing.T) {
	want := movable()
	want.Nodes[0].Cordon = true
	got, ok := impl.Drain(movable(), 3)
	if !ok {
		t.Error("Drain of a node without tasks is false")
	}
	wantCluster(t, "Drain of a node without tasks", got, impl.DoFine, want)
	alone := impl.Cluster{Tasks: tasksUpTo(1), Nodes: nodesUpTo(1)}
	got, ok = impl.Drain(alone, 1)
	if !ok {
		t.Error("Drain of the only node is false")
	}
	wantCluster(t, "Drain of the only node", got, impl.DoFine, impl.Cluster{Tasks: tasksUpTo(1), Nodes: []impl.Node{cordoned(nodesUpTo(1)[0])}})
}

func TestDrainOfCordonedNode(t *testing.T) {
	c := movable()
	c.Nodes[2].Cordon = true
	want := movable()
	want.Nodes[2].Cordon = true
	want.Binds[3].Node = 4
	got, ok := impl.Drain(c, 6)
	if !ok {
		t.Error("Drain of a cordoned node is false")
	}
	wantCluster(t, "Drain of a cordoned node", got, impl.DoFine, want)
	// Where all others are cordoned the tasks have no Pick, and without tasks it
	// does not matter.
	c.Nodes[0].Cordon, c.Nodes[1].Cordon = true, true
	wantNotDrained(t, c, 6)
	if _, ok := impl.Drain(c, 3); !ok {
		t.Error("Drain of a cordoned node without tasks is false")
	}
}

// One task has no Pick, the first, the last or one between: the cluster is not
// returned with the others moved.
func TestDrainOfNodeWithTaskWithoutPick(t *testing.T) {
	for _, at := range []int{0, 2, 3} {
		c := movable()
		c.Nodes = exchanged(c.Nodes, 1, func(n *impl.Node) { n.Labs = []impl.Lab{{Key: 0, Val: 0}} })
		c.Tasks[at].Want = []impl.Lab{{Key: 0, Val: 0}}
		wantNotDrained(t, c, 4)
		// The same where the Need is too large for all others.
		c = movable()
		c.Tasks[at].Need = amounts(1, 5, 1)
		wantNotDrained(t, c, 4)
	}
	// One more than there is room for, in one field.
	c := movable()
	c.Nodes[0].Cap, c.Nodes[2].Cap = amounts(0, 0, 0), amounts(5, 5, 4)
	wantNotDrained(t, c, 4)
	c.Nodes[2].Cap = amounts(5, 5, 5)
	if got, ok := impl.Drain(c, 4); !ok || impl.Shares(got)[2] != 1000 {
		t.Errorf("Drain into a node that is then full is %v, %s", ok, textOf(got))
	}
	// The only node with tasks, or the only node.
	wantNotDrained(t, impl.Cluster{Tasks: tasksUpTo(1), Nodes: nodesUpTo(1), Binds: []impl.Bind{{Task: 1, Node: 1}}}, 1)
	for _, node := range []int{2, 5, 9} {
		wantNotDrained(t, sample(), node)
	}
}

// crowded has one node, with tasks of several priorities, and the task 90, which
// is not bound. {1, 1, 1} of the node is free.
func crowded(prio int, need impl.Res) impl.Cluster {
	return impl.Cluster{
		Tasks: []impl.Task{
			taskOf(8, 2, amounts(1, 1, 1)), taskOf(90, prio, need), taskOf(5, 3, amounts(1, 1, 4)), taskOf(7, 1, amounts(1, 4, 1)),
			taskOf(3, 2, amounts(2, 1, 1)), taskOf(6, 1, amounts(1, 1, 1)), taskOf(4, 9, amounts(2, 1, 1)),
		},
		Nodes: []impl.Node{nodeOf(2, amounts(9, 10, 10))},
		Binds: []impl.Bind{{Task: 3, Node: 2}, {Task: 4, Node: 2}, {Task: 5, Node: 2}, {Task: 6, Node: 2}, {Task: 7, Node: 2}, {Task: 8, Node: 2}},
	}
}

// The tasks on the node are sorted as 6, 7, 3, 8, 5, 4.
func TestVictims(t *testing.T) {
	for _, v := range []struct {
		what string
		prio int
		need impl.Res
		want []int // nil if there are none that suffice
	}{
		{"the Need fits", 9, amounts(1, 1, 1), []int{}},
		{"nothing is needed", 9, amounts(0, 0, 0), []int{}},
		{"the Need fits and all are more urgent", 0, amounts(1, 1, 1), []int{}},
		{"the first one suffices", 9, amounts(2, 2, 2), []int{6}},
		{"one more in one field", 9, amounts(2, 3, 2), []int{6, 7}},
		{"one more in the first field", 9, amounts(3, 2, 2), []int{6, 7}},
		{"one more in the last field", 9, amounts(2, 2, 3), []int{6, 7}},
		{"three", 9, amounts(5, 1, 1), []int{6, 7, 3}},
		{"four, equal ones sorted by Id", 9, amounts(6, 1, 1), []int{6, 7, 3, 8}},
		{"all but the one that is as urgent", 9, amounts(7, 9, 9), []int{6, 7, 3, 8, 5}},
		{"even all of them do not suffice", 9, amounts(8, 1, 1), nil},
		{"nor in another field", 9, amounts(1, 10, 1), nil},
		{"nor in the last field", 9, amounts(1, 1, 10), nil},
		{"more than the Cap", 9, amounts(10, 1, 1), nil},
		{"as urgent as the last one", 3, amounts(6, 1, 1), []int{6, 7, 3, 8}},
		{"as urgent as the last one, which would be needed", 3, amounts(7, 1, 1), nil},
		{"as urgent as two", 2, amounts(3, 1, 1), []int{6, 7}},
		{"as urgent as two, one of which would be needed", 2, amounts(4, 1, 1), nil},
		{"as urgent as the first ones", 1, amounts(2, 1, 1), nil},
		{"the least urgent", 0, amounts(2, 1, 1), nil},
	} {
		c := crowded(v.prio, v.need)
		if v.want == nil {
			wantNoVictims(t, c, 2, 90)
			wantNotPreempted(t, c, 90)
			continue
		}
		wantVictimsOf(t, c, 2, 90, v.want...)
		want := c
		want.Binds = append(slices.DeleteFunc(slices.Clone(c.Binds), func(b impl.Bind) bool { return slices.Contains(v.want, b.Task) }), impl.Bind{Task: 90, Node: 2})
		got, node := impl.Preempt(c, 90)
		wantInt(t, "Preempt, "+v.what, node, 2)
		wantCluster(t, "Preempt, "+v.what, got, impl.DoFine, want)
		if t.Failed() {
			t.Fatalf("with the victims %v: %s", v.want, v.what)
		}
	}
}

// The prefix is taken as it is: a task in it that does not help stays a victim,
// and one behind it that would do alone is none.
func TestVictimsAreAPrefix(t *testing.T) {
	c := impl.Cluster{
		Tasks: []impl.Task{taskOf(1, 0, amounts(0, 0, 1)), taskOf(2, 0, impl.Res{}), taskOf(3, 1, amounts(4, 4, 0)), taskOf(9, 2, amounts(4, 0, 0))},
		Nodes: []impl.Node{nodeOf(1, even(4))},
		Binds: []impl.Bind{{Task: 1, Node: 1}, {Task: 2, Node: 1}, {Task: 3, Node: 1}},
	}
	wantVictimsOf(t, c, 1, 9, 1, 2, 3)
}

func TestVictimsOfWrongArguments(t *testing.T) {
	c := crowded(9, even(1))
	wantVictimsOf(t, c, 2, 90)
	for _, id := range append(idsAtTheBounds(), 90) {
		wantNoVictims(t, c, id, 90)
	}
	for _, id := range append(idsAtTheBounds(), 2) {
		wantNoVictims(t, c, 2, id)
		wantNotPreempted(t, c, id)
	}
	// A bound task, on its own node and on another one with room.
	c.Nodes = append(c.Nodes, nodeOf(3, even(9)))
	wantNoVictims(t, c, 2, 4)
	wantNoVictims(t, c, 3, 4)
	wantNotPreempted(t, c, 4)
	wantInt(t, "Pick of a bound task", impl.Pick(c, 4), 0)
	// A node that is cordoned, with room and with victims.
	c.Nodes[0].Cordon, c.Nodes[1].Cordon = true, true
	wantNoVictims(t, c, 2, 90)
	wantNoVictims(t, c, 3, 90)
	wantNotPreempted(t, c, 90)
}

// On each node are tasks of 1 with the priority 0; the task needs 4 of 4.
func TestPreemptTakesTheFewestVictims(t *testing.T) {
	for _, p := range []struct {
		what    string
		victims []int // how many there would be on the nodes 11, 12, ..
		want    int
	}{
		{"all equal", []int{2, 2, 2}, 11},
		{"the first two", []int{1, 1, 2}, 11},
		{"the first and the last", []int{1, 2, 1}, 11},
		{"the last two", []int{3, 2, 2}, 12},
		{"the last", []int{3, 2, 1}, 13},
		{"the first", []int{1, 2, 3}, 11},
		{"the one between", []int{3, 1, 2}, 12},
		{"none on the last", []int{1, 1, 0}, 13},
		{"none on two", []int{1, 0, 0}, 12},
		{"none on all", []int{0, 0}, 11},
		{"only one", []int{4}, 11},
	} {
		c := impl.Cluster{Tasks: []impl.Task{taskOf(99, 1, even(4))}}
		for at, number := range p.victims {
			c.Nodes = append(c.Nodes, nodeOf(11+at, even(4)))
			for range number {
				id := len(c.Tasks)
				c.Tasks = append(c.Tasks, taskOf(id, 0, even(1)))
				c.Binds = append(c.Binds, impl.Bind{Task: id, Node: 11 + at})
			}
		}
		want := c
		want.Binds = slices.DeleteFunc(slices.Clone(c.Binds), func(b impl.Bind) bool { return b.Node == p.want })
		want.Binds = append(want.Binds, impl.Bind{Task: 99, Node: p.want})
		got, node := impl.Preempt(c, 99)
		wantInt(t, "Preempt, "+p.what, node, p.want)
		wantCluster(t, "Preempt, "+p.what, got, impl.DoFine, want)
	}
}

// The number of victims counts, neither their priorities nor the Score.
func TestPreemptCountsNothingElse(t *testing.T) {
	c := impl.Cluster{
		Tasks: []impl.Task{taskOf(1, 0, even(1)), taskOf(2, 0, even(1)), taskOf(3, 8, even(4)), taskOf(4, 9, even(4)), taskOf(5, 7, even(4))},
		Nodes: []impl.Node{nodeOf(1, even(4)), nodeOf(2, even(4)), nodeOf(3, even(4))},
		Binds: []impl.Bind{{Task: 1, Node: 1}, {Task: 2, Node: 1}, {Task: 3, Node: 2}, {Task: 5, Node: 3}},
	}
	want := c
	want.Binds = []impl.Bind{{Task: 1, Node: 1}, {Task: 2, Node: 1}, {Task: 4, Node: 2}, {Task: 5, Node: 3}}
	got, node := impl.Preempt(c, 4)
	wantInt(t, "Preempt of a more urgent victim", node, 2)
	wantCluster(t, "Preempt of a more urgent victim", got, impl.DoFine, want)
	// Of two nodes with room it takes the first, and Pick the one with the
	// greater Score.
	roomy := impl.Cluster{Tasks: tasksUpTo(1), Nodes: []impl.Node{nodeOf(6, even(9)), nodeOf(7, even(2))}}
	_, node = impl.Preempt(roomy, 1)
	wantInt(t, "Preempt without victims", node, 6)
	wantInt(t, "Pick", impl.Pick(roomy, 1), 7)
}

func TestShares(t *testing.T) {
	wantInts(t, "Shares", impl.Shares(sample()), 750, 1000, 500)
	wantInts(t, "Shares of a full cluster", impl.Shares(fullCluster())[14:16], 1000, 0)
	wantInts(t, "Shares of the empty cluster", impl.Shares(impl.Cluster{}))
	wantInts(t, "Shares without nodes", impl.Shares(impl.Cluster{Tasks: tasksUpTo(3)}))
	one := impl.Cluster{Tasks: []impl.Task{taskOf(1, 0, amounts(1, 2, 0))}, Nodes: []impl.Node{nodeOf(4, amounts(3, 7, 0)), nodeOf(5, impl.Res{})}, Binds: []impl.Bind{{Task: 1, Node: 4}}}
	wantInts(t, "Shares that are rounded", impl.Shares(one), 333, 0)
}

// placing is a call of one of the functions of the chapter; in what it returns
// all results are one value.
type placing struct {
	name string
	do   func(c impl.Cluster) any
	none any // what it returns for a cluster that is not valid
}

type placedResult struct {
	Cluster impl.Cluster
	Added   []impl.Bind
	Ids     []int
	Node    int
	Ok      bool
}

// placings calls every function, with a node and a task where it takes them.
func placings(node int, task int) []placing {
	return []placing{
		{"Score", func(c impl.Cluster) any { return impl.Score(c, node, task) }, -1},
		{"Pick", func(c impl.Cluster) any { return impl.Pick(c, task) }, 0},
		{"Queue", func(c impl.Cluster) any { return impl.Queue(c) }, []int(nil)},
		{"Shares", func(c impl.Cluster) any { return impl.Shares(c) }, []int(nil)},
		{"PlaceAll", func(c impl.Cluster) any {
			out, added := impl.PlaceAll(c)
			return placedResult{Cluster: out, Added: added}
		}, placedResult{}},
		{"Drain", func(c impl.Cluster) any {
			out, ok := impl.Drain(c, node)
			return placedResult{Cluster: out, Ok: ok}
		}, placedResult{}},
		{"Victims", func(c impl.Cluster) any {
			ids, ok := impl.Victims(c, node, task)
			return placedResult{Ids: ids, Ok: ok}
		}, placedResult{}},
		{"Preempt", func(c impl.Cluster) any {
			out, on := impl.Preempt(c, task)
			return placedResult{Cluster: out, Node: on}
		}, placedResult{}},
	}
}

// marked has lists in all its tasks and nodes. Every function has a result for
// the node 3 and one of the unbound tasks: the node can be drained, has room for
// the task 8, and has two victims of the task 20.
func marked() impl.Cluster {
	want, tols := []impl.Lab{{Key: 1, Val: 2}}, []int{3, 5}
	labs, taints := []impl.Lab{{Key: 1, Val: 2}, {Key: 6, Val: 0}}, []int{5}
	return impl.Cluster{
		Tasks: []impl.Task{
			{Id: 20, Prio: 5, Need: even(4), Want: slices.Clone(want), Tols: slices.Clone(tols)},
			{Id: 4, Prio: 1, Need: even(1), Want: slices.Clone(want), Tols: slices.Clone(tols)},
			{Id: 15, Prio: 3, Need: even(2), Want: slices.Clone(want), Tols: slices.Clone(tols)},
			{Id: 8, Prio: 5, Need: even(1), Want: slices.Clone(want), Tols: slices.Clone(tols)},
		},
		Nodes: []impl.Node{
			{Id: 3, Pool: 2, Cap: even(4), Labs: slices.Clone(labs), Taints: slices.Clone(taints)},
			{Id: 6, Pool: 1, Cap: even(3), Labs: slices.Clone(labs), Taints: slices.Clone(taints)},
		},
		Binds: []impl.Bind{{Task: 4, Node: 3}, {Task: 15, Node: 3}},
	}
}

func TestPlacingOfMarked(t *testing.T) {
	c := marked()
	wantInt(t, "Score", impl.Score(c, 3, 8), 1000)
	wantInt(t, "Pick", impl.Pick(c, 8), 3)
	wantInts(t, "Queue", impl.Queue(c), 20, 8)
	wantInts(t, "Shares", impl.Shares(c), 750, 0)
	_, added := impl.PlaceAll(c)
	wantBinds(t, "what PlaceAll added", added, impl.Bind{Task: 8, Node: 3})
	drained, ok := impl.Drain(c, 3)
	if !ok {
		t.Error("Drain is false")
	}
	wantBinds(t, "what is bound after Drain", drained.Binds, impl.Bind{Task: 4, Node: 6}, impl.Bind{Task: 15, Node: 6})
	wantVictimsOf(t, c, 3, 20, 4, 15)
	after, node := impl.Preempt(c, 20)
	wantInt(t, "Preempt", node, 3)
	wantBinds(t, "what is bound after Preempt", after.Binds, impl.Bind{Task: 20, Node: 3})
}

// brokenMarked returns clusters in which something is wrong that has nothing to
// do with what is asked: only a check of the whole cluster finds it.
func brokenMarked() map[string]impl.Cluster {
	out := map[string]impl.Cluster{}
	with := func(what string, change func(c *impl.Cluster)) {
		c := marked()
		change(&c)
		out[what] = c
	}
	with("an invalid task at the end", func(c *impl.Cluster) { c.Tasks = append(c.Tasks, impl.Task{Id: 50, Prio: 10}) })
	with("a task of the zero value", func(c *impl.Cluster) { c.Tasks = append([]impl.Task{{}}, c.Tasks...) })
	with("a task twice", func(c *impl.Cluster) { c.Tasks = append(c.Tasks, c.Tasks[3]) })
	with("too many tasks", func(c *impl.Cluster) {
		for _, task := range tasksUpTo(90)[60:87] {
			c.Tasks = append(c.Tasks, task)
		}
	})
	with("an invalid node at the end", func(c *impl.Cluster) { c.Nodes = append(c.Nodes, impl.Node{Id: 50, Pool: impl.MaxPools}) })
	with("a node of the zero value", func(c *impl.Cluster) { c.Nodes = append([]impl.Node{{}}, c.Nodes...) })
	with("decreasing nodes", func(c *impl.Cluster) { slices.Reverse(c.Nodes) })
	with("too many nodes", func(c *impl.Cluster) {
		for _, node := range nodesUpTo(90)[60:79] {
			c.Nodes = append(c.Nodes, node)
		}
	})
	with("decreasing bindings", func(c *impl.Cluster) { slices.Reverse(c.Binds) })
	with("a binding of no task", func(c *impl.Cluster) { c.Binds = append(c.Binds, impl.Bind{Task: 50, Node: 6}) })
	with("a binding to no node", func(c *impl.Cluster) {
		c.Tasks = append(c.Tasks, impl.Task{Id: 50})
		c.Binds = append(c.Binds, impl.Bind{Task: 50, Node: 50})
	})
	with("a node that is too full", func(c *impl.Cluster) {
		c.Tasks = append(c.Tasks, taskOf(50, 0, even(1)))
		c.Nodes = append(c.Nodes, nodeOf(50, amounts(1, 0, 1)))
		c.Binds = append(c.Binds, impl.Bind{Task: 50, Node: 50})
	})
	with("a node that cannot host its task", func(c *impl.Cluster) {
		c.Tasks = append(c.Tasks, taskOf(50, 0, even(1)))
		c.Nodes = append(c.Nodes, impl.Node{Id: 50, Cap: even(9), Taints: []int{1}})
		c.Binds = append(c.Binds, impl.Bind{Task: 50, Node: 50})
	})
	return out
}

func TestPlacingWithInvalidClusters(t *testing.T) {
	for what, c := range brokenMarked() {
		if impl.ClusterOk(c) {
			t.Errorf("the cluster with %s is valid", what)
		}
		for _, task := range []int{8, 20, 4, 50, 0} {
			for _, node := range []int{3, 6, 50, 0} {
				wantNothing(t, what, c, node, task)
			}
		}
	}
	for what, c := range brokenClusters() {
		for _, task := range []int{3, 40, 30, 50, 0, -1, 1} {
			for _, node := range []int{2, 5, 9, 50, 0, -1, 1} {
				wantNothing(t, what, c, node, task)
			}
		}
	}
}

// wantNothing distinguishes nil from an empty list, as the chapter says nil.
func wantNothing(t *testing.T, what string, c impl.Cluster, node int, task int) {
	t.Helper()
	for _, p := range placings(node, task) {
		if got := p.do(c); !reflect.DeepEqual(got, p.none) {
			t.Errorf("%s with the node %d, the task %d and %s is %+v", p.name, node, task, what, got)
		}
	}
}

// With Ids that do not exist the functions that take them return nothing too.
func TestPlacingWithIdsThatDoNotExist(t *testing.T) {
	for _, c := range append(validClusters(), marked(), movable(), hosting()) {
		for _, id := range append(idsAtTheBounds(), 60) {
			if slices.ContainsFunc(c.Tasks, func(task impl.Task) bool { return task.Id == id }) || slices.ContainsFunc(c.Nodes, func(n impl.Node) bool { return n.Id == id }) {
				continue
			}
			for _, p := range placings(id, id) {
				if p.name == "Queue" || p.name == "Shares" || p.name == "PlaceAll" {
					continue
				}
				if got := p.do(c); !reflect.DeepEqual(got, p.none) {
					t.Errorf("%s of the Id %d is %+v", p.name, id, got)
				}
			}
		}
		for _, task := range c.Tasks {
			wantInt(t, "Score on no node", impl.Score(c, 60, task.Id), -1)
			wantNoVictims(t, c, 60, task.Id)
		}
		for _, n := range c.Nodes {
			wantInt(t, "Score of no task", impl.Score(c, n.Id, 60), -1)
			wantNoVictims(t, c, n.Id, 60)
		}
	}
	// The Id of a node is not that of a task, and the reverse.
	wantInt(t, "Score with the Ids exchanged", impl.Score(marked(), 8, 3), -1)
	wantInt(t, "Pick of a node", impl.Pick(marked(), 3), 0)
	wantNotDrained(t, marked(), 20)
	wantNoVictims(t, marked(), 20, 3)
	wantNotPreempted(t, marked(), 3)
}

// A bound task has a Score, and nothing else.
func TestPlacingOfBoundTasks(t *testing.T) {
	for _, c := range append(validClusters(), marked(), movable()) {
		for _, b := range c.Binds {
			wantInt(t, fmt.Sprint("Pick of the bound task ", b.Task), impl.Pick(c, b.Task), 0)
			wantNotPreempted(t, c, b.Task)
			for _, n := range c.Nodes {
				wantNoVictims(t, c, n.Id, b.Task)
			}
			if slices.Contains(impl.Queue(c), b.Task) {
				t.Errorf("the Queue of %s contains the bound task %d", textOf(c), b.Task)
			}
		}
	}
	wantInt(t, "Score of a bound task", impl.Score(marked(), 6, 15), 666)
	wantInt(t, "Score of a bound task where it is", impl.Score(marked(), 3, 4), 1000)
	wantInt(t, "Score of a bound task where it has no more room", impl.Score(marked(), 3, 15), -1)
}

func TestPlacingWithNilAndEmptyLists(t *testing.T) {
	empty := impl.Cluster{
		Tasks: []impl.Task{{Id: 2, Prio: 1, Want: []impl.Lab{}, Tols: []int{}}, {Id: 1, Want: []impl.Lab{}, Tols: []int{}}},
		Nodes: []impl.Node{{Id: 1, Labs: []impl.Lab{}, Taints: []int{}}, {Id: 2, Labs: []impl.Lab{}, Taints: []int{}}},
		Binds: []impl.Bind{},
	}
	none := impl.Cluster{Tasks: []impl.Task{{Id: 2, Prio: 1}, {Id: 1}}, Nodes: []impl.Node{{Id: 1}, {Id: 2}}}
	pairs := [][2]impl.Cluster{{empty, none}, {{Tasks: []impl.Task{}, Nodes: []impl.Node{}, Binds: []impl.Bind{}}, {}}}
	for _, pair := range pairs {
		for _, p := range placings(1, 2) {
			got, want := fmt.Sprintf("%+v", p.do(pair[0])), fmt.Sprintf("%+v", p.do(pair[1]))
			if got != want {
				t.Errorf("%s is %s with empty lists and %s with nil", p.name, got, want)
			}
		}
	}
	out, added := impl.PlaceAll(impl.Cluster{})
	wantCluster(t, "PlaceAll of the empty cluster", out, impl.DoFine, impl.Cluster{})
	wantBinds(t, "what PlaceAll added to the empty cluster", added)
}

func TestPlacingChangesNoArgumentAndSharesNoMemory(t *testing.T) {
	clusters := append(validClusters(), marked(), movable(), hosting(), crowded(9, amounts(6, 1, 1)))
	for _, c := range brokenMarked() {
		clusters = append(clusters, c)
	}
	clusters = append(clusters, crowds(t)[:60]...)
	for _, c := range clusters {
		given := spacious(c)
		before := wholeText(reflect.ValueOf(given))
		for _, n := range append(slices.Clone(c.Nodes), impl.Node{Id: 60}) {
			for _, task := range append(slices.Clone(c.Tasks), impl.Task{Id: 60}) {
				for _, p := range placings(n.Id, task.Id) {
					first, second := p.do(given), p.do(given)
					if now := wholeText(reflect.ValueOf(given)); now != before {
						t.Fatalf("%s(%d, %d) changed the cluster %s to %s", p.name, n.Id, task.Id, before, now)
					}
					wantOwnMemory(t, p.name, first, given, second)
					// The same without spare capacity: nothing behind a list is read.
					if want := p.do(c); fmt.Sprintf("%+v", first) != fmt.Sprintf("%+v", want) {
						t.Fatalf("%s(%d, %d) of %s is %+v with more behind the lists, and %+v without", p.name, n.Id, task.Id, textOf(c), first, want)
					}
				}
			}
			// Large clusters have many pairs; some of them are enough.
			if len(c.Tasks) > 10 && n.Id > 2 {
				break
			}
		}
	}
}
