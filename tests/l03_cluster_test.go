package tests

import (
	"fmt"
	"math"
	"reflect"
	"slices"
	"testing"

	"loop.example/g00718/impl"
)

// textOf shows a cluster; a nil list and an empty one look the same.
func textOf(c impl.Cluster) string { return fmt.Sprintf("%+v", c) }

func wantCluster(t *testing.T, what string, got impl.Cluster, code int, want impl.Cluster) {
	t.Helper()
	if code != impl.DoFine || textOf(got) != textOf(want) {
		t.Errorf("%s: got %s with the code %d, want %s", what, textOf(got), code, textOf(want))
	}
	if !impl.ClusterOk(got) {
		t.Errorf("%s: the result %s is not valid", what, textOf(got))
	}
}

func wantRejected(t *testing.T, what string, got impl.Cluster, code int, want int) {
	t.Helper()
	if code != want || textOf(got) != textOf(impl.Cluster{}) {
		t.Errorf("%s: got %s with the code %d, want the zero value and the code %d", what, textOf(got), code, want)
	}
}

// exchanged returns a copy of list with an element changed.
func exchanged[T any](list []T, at int, change func(*T)) []T {
	out := slices.Clone(list)
	change(&out[at])
	return out
}

func amounts(cpu int, mem int, pods int) impl.Res { return impl.Res{Cpu: cpu, Mem: mem, Pods: pods} }

// sample has a node that is partly used, one that is exactly full with two
// tasks, and one that is cordoned with a task on it. The tasks 40 and 3 are not
// bound, and the tasks are in no order of their Ids.
func sample() impl.Cluster {
	return impl.Cluster{
		Tasks: []impl.Task{
			{Id: 30, Prio: 9, Need: amounts(3, 1, 1), Want: []impl.Lab{{Key: 1, Val: 2}}, Tols: []int{5}},
			{Id: 12, Prio: 3, Need: amounts(6, 5, 1)},
			{Id: 40, Prio: 1, Need: amounts(2, 1, 1), Tols: []int{5}},
			{Id: 7, Need: amounts(2, 1, 1), Want: []impl.Lab{{Key: 1, Val: 2}}, Tols: []int{5, 6}},
			{Id: 11, Prio: 5, Need: amounts(4, 5, 9)},
			{Id: 3, Need: amounts(1, 3, 1), Want: []impl.Lab{{Key: 1, Val: 2}, {Key: 3, Val: 0}}, Tols: []int{0, 5}},
		},
		Nodes: []impl.Node{
			{Id: 2, Cap: amounts(4, 4, 2), Labs: []impl.Lab{{Key: 1, Val: 2}, {Key: 3, Val: 0}}, Taints: []int{5}},
			{Id: 5, Pool: 4, Cap: amounts(10, 10, 10)},
			{Id: 9, Pool: 1, Cap: amounts(4, 4, 4), Labs: []impl.Lab{{Key: 1, Val: 2}}, Taints: []int{5, 6}, Cordon: true},
		},
		Binds: []impl.Bind{{Task: 7, Node: 9}, {Task: 11, Node: 5}, {Task: 12, Node: 5}, {Task: 30, Node: 2}},
	}
}

// tasksUpTo and nodesUpTo return elements with the Ids 1..n.
func tasksUpTo(n int) []impl.Task {
	var out []impl.Task
	for id := 1; id <= n; id++ {
		out = append(out, impl.Task{Id: id, Prio: id % 10, Need: amounts(1, 1, 1)})
	}
	return out
}

func nodesUpTo(n int) []impl.Node {
	var out []impl.Node
	for id := 1; id <= n; id++ {
		out = append(out, impl.Node{Id: id, Pool: id % impl.MaxPools, Cap: amounts(2, 2, 2)})
	}
	return out
}

// fullCluster has as many tasks and nodes as there may be, and every task bound.
func fullCluster() impl.Cluster {
	c := impl.Cluster{Tasks: tasksUpTo(impl.MaxTasks), Nodes: nodesUpTo(impl.MaxNodes)}
	for _, task := range c.Tasks {
		c.Binds = append(c.Binds, impl.Bind{Task: task.Id, Node: (task.Id + 1) / 2})
	}
	return c
}

// validClusters returns clusters of all sizes.
func validClusters() []impl.Cluster {
	unbound := sample()
	unbound.Binds = nil
	return []impl.Cluster{
		{},
		{Tasks: []impl.Task{}, Nodes: []impl.Node{}, Binds: []impl.Bind{}},
		{Tasks: tasksUpTo(1)},
		{Nodes: nodesUpTo(1)},
		{Tasks: tasksUpTo(impl.MaxTasks), Nodes: nodesUpTo(2)},
		{Tasks: tasksUpTo(2), Nodes: nodesUpTo(impl.MaxNodes)},
		sample(),
		unbound,
		fullCluster(),
	}
}

func idsAtTheBounds() []int {
	return []int{math.MinInt, -1, 0, 1, impl.MaxId, impl.MaxId + 1, math.MaxInt}
}

func isId(id int) bool { return id >= 1 && id <= impl.MaxId }

func TestClusterExample(t *testing.T) {
	c := impl.Cluster{
		Tasks: []impl.Task{{Id: 1, Need: amounts(3, 1, 1)}, {Id: 2, Need: amounts(2, 1, 1)}},
		Nodes: []impl.Node{{Id: 1, Cap: amounts(4, 4, 2)}},
	}
	one, code := impl.BindAdd(c, impl.Bind{Task: 1, Node: 1})
	want := c
	want.Binds = []impl.Bind{{Task: 1, Node: 1}}
	wantCluster(t, "BindAdd of the first", one, code, want)
	got, code := impl.BindAdd(one, impl.Bind{Task: 2, Node: 1})
	wantRejected(t, "BindAdd of the second", got, code, impl.DoRoom)
}

func TestTaskOk(t *testing.T) {
	good := impl.Task{Id: 4, Prio: 5, Need: amounts(0, 1, most), Want: labsOf([]int{0, 1, 2, 3, 4, 5}), Tols: []int{0, 2, 4, 6, 8, 9}}
	if !impl.TaskOk(good) || !impl.TaskOk(impl.Task{Id: 1}) || impl.TaskOk(impl.Task{}) {
		t.Error("TaskOk of a simple task is wrong")
	}
	for _, id := range idsAtTheBounds() {
		task := good
		task.Id = id
		if got := impl.TaskOk(task); got != isId(id) {
			t.Errorf("TaskOk with the Id %d is %v", id, got)
		}
	}
	for _, prio := range []int{math.MinInt, -1, 0, 9, 10, math.MaxInt} {
		task := good
		task.Prio = prio
		if got := impl.TaskOk(task); got != (prio == 0 || prio == 9) {
			t.Errorf("TaskOk with the Prio %d is %v", prio, got)
		}
	}
	for _, task := range invalidTasks(good) {
		if impl.TaskOk(task) {
			t.Errorf("TaskOk(%+v) is true", task)
		}
	}
}

// invalidTasks returns copies of a task that are not valid in one field.
func invalidTasks(good impl.Task) []impl.Task {
	var out []impl.Task
	with := func(change func(*impl.Task)) { out = append(out, exchanged([]impl.Task{good}, 0, change)...) }
	for _, id := range []int{0, impl.MaxId + 1} {
		with(func(task *impl.Task) { task.Id = id })
	}
	for _, prio := range []int{-1, 10} {
		with(func(task *impl.Task) { task.Prio = prio })
	}
	for _, need := range invalidVectors() {
		with(func(task *impl.Task) { task.Need = need })
	}
	for _, want := range invalidLabs() {
		with(func(task *impl.Task) { task.Want = want })
	}
	for _, tols := range invalidKeyLists() {
		with(func(task *impl.Task) { task.Tols = tols })
	}
	return out
}

func TestNodeOk(t *testing.T) {
	good := impl.Node{Id: 4, Pool: 2, Cap: amounts(0, 1, most), Labs: labsOf([]int{0, 1, 2, 3, 4, 5}), Taints: []int{0, 2, 4, 6, 8, 9}}
	cordoned := good
	cordoned.Cordon = true
	if !impl.NodeOk(good) || !impl.NodeOk(cordoned) || !impl.NodeOk(impl.Node{Id: 1}) || impl.NodeOk(impl.Node{}) {
		t.Error("NodeOk of a simple node is wrong")
	}
	for _, id := range idsAtTheBounds() {
		node := good
		node.Id = id
		if got := impl.NodeOk(node); got != isId(id) {
			t.Errorf("NodeOk with the Id %d is %v", id, got)
		}
	}
	for _, pool := range []int{math.MinInt, -1, 0, 4, 5, math.MaxInt} {
		node := good
		node.Pool = pool
		if got := impl.NodeOk(node); got != (pool == 0 || pool == 4) {
			t.Errorf("NodeOk with the Pool %d is %v", pool, got)
		}
	}
	for _, node := range invalidNodes(good) {
		if impl.NodeOk(node) {
			t.Errorf("NodeOk(%+v) is true", node)
		}
	}
}

// invalidNodes returns copies of a node that are not valid in one field.
func invalidNodes(good impl.Node) []impl.Node {
	var out []impl.Node
	with := func(change func(*impl.Node)) { out = append(out, exchanged([]impl.Node{good}, 0, change)...) }
	for _, id := range []int{0, impl.MaxId + 1} {
		with(func(node *impl.Node) { node.Id = id })
	}
	for _, pool := range []int{-1, impl.MaxPools} {
		with(func(node *impl.Node) { node.Pool = pool })
	}
	for _, capacity := range invalidVectors() {
		with(func(node *impl.Node) { node.Cap = capacity })
	}
	for _, labs := range invalidLabs() {
		with(func(node *impl.Node) { node.Labs = labs })
	}
	for _, taints := range invalidKeyLists() {
		with(func(node *impl.Node) { node.Taints = taints })
	}
	return out
}

func TestCanHost(t *testing.T) {
	node := impl.Node{Id: 1, Labs: []impl.Lab{{Key: 1, Val: 2}, {Key: 4, Val: 0}}, Taints: []int{3, 5}}
	task := impl.Task{Id: 1, Want: []impl.Lab{{Key: 1, Val: 2}, {Key: 4, Val: 0}}, Tols: []int{3, 5}}
	for _, c := range []struct {
		what   string
		change func(*impl.Node, *impl.Task)
		want   bool
	}{
		{"as they are", func(n *impl.Node, t *impl.Task) {}, true},
		{"nothing wanted", func(n *impl.Node, t *impl.Task) { t.Want = nil }, true},
		{"one label wanted", func(n *impl.Node, t *impl.Task) { t.Want = t.Want[1:] }, true},
		{"more tolerated", func(n *impl.Node, t *impl.Task) { t.Tols = []int{0, 3, 4, 5} }, true},
		{"no taints", func(n *impl.Node, t *impl.Task) { n.Taints = nil }, true},
		{"no taints and no tolerations", func(n *impl.Node, t *impl.Task) { n.Taints, t.Tols = nil, nil }, true},
		{"cordoned", func(n *impl.Node, t *impl.Task) { n.Cordon = true }, true},
		{"no capacity", func(n *impl.Node, t *impl.Task) { t.Need = amounts(most, most, most) }, true},
		{"another Val", func(n *impl.Node, t *impl.Task) { n.Labs = []impl.Lab{{Key: 1, Val: 3}, {Key: 4, Val: 0}} }, false},
		{"a label missing", func(n *impl.Node, t *impl.Task) { n.Labs = n.Labs[:1] }, false},
		{"no labels", func(n *impl.Node, t *impl.Task) { n.Labs = nil }, false},
		{"a taint more", func(n *impl.Node, t *impl.Task) { n.Taints = []int{3, 5, 6} }, false},
		{"a toleration missing", func(n *impl.Node, t *impl.Task) { t.Tols = []int{5} }, false},
		{"nothing tolerated", func(n *impl.Node, t *impl.Task) { t.Tols = nil }, false},
	} {
		n, k := node, task
		c.change(&n, &k)
		if got := impl.CanHost(n, k); got != c.want {
			t.Errorf("CanHost, %s: %v", c.what, got)
		}
	}
}

func TestCanHostOfInvalid(t *testing.T) {
	node, task := impl.Node{Id: 1}, impl.Task{Id: 1}
	if !impl.CanHost(node, task) {
		t.Fatal("CanHost of a simple pair is false")
	}
	for _, bad := range invalidNodes(node) {
		if impl.CanHost(bad, task) {
			t.Errorf("CanHost accepts the node %+v", bad)
		}
	}
	for _, bad := range invalidTasks(task) {
		if impl.CanHost(node, bad) {
			t.Errorf("CanHost accepts the task %+v", bad)
		}
	}
}

func TestClusterOkOfValid(t *testing.T) {
	for _, c := range validClusters() {
		if !impl.ClusterOk(c) {
			t.Errorf("ClusterOk(%s) is false", textOf(c))
		}
	}
	ends := impl.Cluster{
		Tasks: []impl.Task{{Id: impl.MaxId, Prio: 9}, {Id: 1}},
		Nodes: []impl.Node{{Id: 1}, {Id: impl.MaxId, Pool: impl.MaxPools - 1}},
		Binds: []impl.Bind{{Task: 1, Node: impl.MaxId}, {Task: impl.MaxId, Node: 1}},
	}
	if !impl.ClusterOk(ends) {
		t.Error("ClusterOk rejects Ids at their bounds")
	}
}

// brokenClusters returns, by what is wrong, clusters that are not valid.
func brokenClusters() map[string]impl.Cluster {
	out := map[string]impl.Cluster{
		"a task too many":                 {Tasks: tasksUpTo(impl.MaxTasks + 1)},
		"a node too many":                 {Nodes: nodesUpTo(impl.MaxNodes + 1)},
		"many tasks":                      {Tasks: make([]impl.Task, 1000)},
		"many nodes":                      {Nodes: make([]impl.Node, 1000)},
		"many bindings":                   {Binds: make([]impl.Bind, 1000)},
		"a binding in an empty one":       {Binds: []impl.Bind{{Task: 1, Node: 1}}},
		"a zero binding in an empty one":  {Binds: []impl.Bind{{}}},
		"a task that is the zero value":   {Tasks: make([]impl.Task, 1)},
		"a node that is the zero value":   {Nodes: make([]impl.Node, 1)},
		"a second task of the zero value": {Tasks: append(tasksUpTo(1), impl.Task{})},
	}
	with := func(what string, change func(c *impl.Cluster)) {
		c := sample()
		change(&c)
		out[what] = c
	}
	with("equal tasks", func(c *impl.Cluster) { c.Tasks = append(c.Tasks, c.Tasks[0]) })
	with("tasks with equal Ids", func(c *impl.Cluster) { c.Tasks = append(c.Tasks, impl.Task{Id: 3}) })
	with("neighbours with equal Ids", func(c *impl.Cluster) { c.Tasks = append([]impl.Task{{Id: 30}}, c.Tasks...) })
	with("equal nodes", func(c *impl.Cluster) { c.Nodes = append(c.Nodes, c.Nodes[2]) })
	with("nodes with equal Ids", func(c *impl.Cluster) { c.Nodes[1].Id = 2 })
	with("decreasing nodes", func(c *impl.Cluster) { c.Nodes[0], c.Nodes[1] = c.Nodes[1], c.Nodes[0] })
	with("a last node that is smaller", func(c *impl.Cluster) { c.Nodes = append(c.Nodes, impl.Node{Id: 3}) })
	with("equal bindings", func(c *impl.Cluster) { c.Binds = slices.Insert(c.Binds, 1, c.Binds[0]) })
	with("a task bound twice", func(c *impl.Cluster) {
		c.Tasks[1].Need = amounts(1, 1, 1)
		c.Nodes = append(c.Nodes, impl.Node{Id: 10, Cap: amounts(10, 10, 10)})
		c.Binds = []impl.Bind{{Task: 12, Node: 5}, {Task: 12, Node: 10}}
	})
	with("decreasing bindings", func(c *impl.Cluster) { c.Binds[1], c.Binds[2] = c.Binds[2], c.Binds[1] })
	for _, id := range []int{-1, 0, 4, impl.MaxId, impl.MaxId + 1} {
		with(fmt.Sprint("a first binding of no task ", id), func(c *impl.Cluster) { c.Binds[0].Task = id })
		with(fmt.Sprint("a last binding of no task ", id), func(c *impl.Cluster) {
			c.Binds = append(c.Binds, impl.Bind{Task: 98 + id%2, Node: 5})
		})
		with(fmt.Sprint("a binding to no node ", id), func(c *impl.Cluster) { c.Binds[2].Node = id })
	}
	with("a node without the wanted label", func(c *impl.Cluster) { c.Nodes[0].Labs = nil })
	with("a node with a taint that is not tolerated", func(c *impl.Cluster) { c.Nodes[1].Taints = []int{0} })
	with("a cordoned node with a taint that is not tolerated", func(c *impl.Cluster) { c.Tasks[3].Tols = []int{5} })
	for field := range 3 {
		with(fmt.Sprint("a capacity that is exceeded by one in the field ", field), func(c *impl.Cluster) {
			c.Nodes[1].Cap = withField(c.Nodes[1].Cap, field, 9)
		})
		with(fmt.Sprint("a sum that is not valid in the field ", field), func(c *impl.Cluster) {
			c.Nodes[1].Cap = amounts(most, most, most)
			c.Tasks[1].Need = withField(impl.Res{}, field, most)
			c.Tasks[4].Need = withField(impl.Res{}, field, 1)
		})
	}
	with("a capacity that one task exceeds", func(c *impl.Cluster) { c.Nodes[2].Cap = amounts(4, 0, 4) })
	with("an invalid task that is not bound", func(c *impl.Cluster) { c.Tasks[5].Prio = 10 })
	with("an invalid task that is bound", func(c *impl.Cluster) { c.Tasks[0].Prio = -1 })
	with("an invalid node", func(c *impl.Cluster) { c.Nodes[2].Pool = impl.MaxPools })
	with("a need that is not valid", func(c *impl.Cluster) { c.Tasks[0].Need.Cpu = -1 })
	with("a capacity that is not valid", func(c *impl.Cluster) { c.Nodes[0].Cap.Mem = most + 1 })
	return out
}

func TestClusterOkOfInvalid(t *testing.T) {
	for what, c := range brokenClusters() {
		if impl.ClusterOk(c) {
			t.Errorf("ClusterOk accepts %s", what)
		}
	}
	for at := range sample().Tasks {
		for _, bad := range invalidTasks(sample().Tasks[at]) {
			c := sample()
			c.Tasks[at] = bad
			if impl.ClusterOk(c) {
				t.Errorf("ClusterOk accepts the task %+v", bad)
			}
		}
	}
	for at := range sample().Nodes {
		for _, bad := range invalidNodes(sample().Nodes[at]) {
			c := sample()
			c.Nodes[at] = bad
			// Without its tasks the node alone can be the reason.
			unbound := c
			unbound.Binds = nil
			if impl.ClusterOk(c) || impl.ClusterOk(unbound) {
				t.Errorf("ClusterOk accepts the node %+v", bad)
			}
		}
	}
}

// The needs of two tasks against the capacity of their node: exactly as much,
// one less and one more in one field, at the limit of what is valid too.
func TestNeedsAgainstTheCapacity(t *testing.T) {
	for _, c := range []struct{ first, second, capacity, want int }{
		{3, 4, 7, 1}, {3, 4, 8, 1}, {3, 4, 6, 0},
		{0, 0, 0, 1}, {0, 1, 0, 0}, {1, 0, 0, 0},
		{most, 0, most, 1}, {most - 1, 1, most, 1}, {most, 1, most, 0}, {most, most, most, 0}, {most, 0, most - 1, 0},
	} {
		for field := range 3 {
			cluster := impl.Cluster{
				Tasks: []impl.Task{{Id: 1, Need: withField(amounts(1, 1, 1), field, c.first)}, {Id: 2, Need: withField(amounts(1, 1, 1), field, c.second)}},
				Nodes: []impl.Node{{Id: 1, Cap: withField(amounts(2, 2, 2), field, c.capacity)}},
				Binds: []impl.Bind{{Task: 1, Node: 1}, {Task: 2, Node: 1}},
			}
			if got := impl.ClusterOk(cluster); got != (c.want == 1) {
				t.Errorf("ClusterOk with the needs %d and %d of %d in the field %d is %v", c.first, c.second, c.capacity, field, got)
			}
			// Adding the second binding meets the same condition.
			cluster.Binds = cluster.Binds[:1]
			if !impl.ClusterOk(cluster) {
				continue
			}
			_, code := impl.BindAdd(cluster, impl.Bind{Task: 2, Node: 1})
			if (code == impl.DoFine) != (c.want == 1) || code != impl.DoFine && code != impl.DoRoom {
				t.Errorf("BindAdd with the needs %d and %d of %d in the field %d has the code %d", c.first, c.second, c.capacity, field, code)
			}
		}
	}
}

func TestUsedAndFree(t *testing.T) {
	for _, c := range []struct {
		node int
		used impl.Res
		free impl.Res
	}{
		{2, amounts(3, 1, 1), amounts(1, 3, 1)},
		{5, amounts(10, 10, 10), amounts(0, 0, 0)},
		{9, amounts(2, 1, 1), amounts(2, 3, 3)},
	} {
		used, ok := impl.Used(sample(), c.node)
		wantRes(t, fmt.Sprint("Used of ", c.node), used, ok, c.used)
		free, ok := impl.Free(sample(), c.node)
		wantRes(t, fmt.Sprint("Free of ", c.node), free, ok, c.free)
	}
	c := impl.Cluster{Nodes: []impl.Node{{Id: 99, Cap: amounts(most, 0, 1)}}}
	used, ok := impl.Used(c, 99)
	wantRes(t, "Used of a node without tasks", used, ok, impl.Res{})
	free, ok := impl.Free(c, 99)
	wantRes(t, "Free of a node without tasks", free, ok, amounts(most, 0, 1))
}

// Promise 5, second part.
func TestUsedAndFreeAddUpToTheCapacity(t *testing.T) {
	for _, c := range validClusters() {
		wantSums(t, c)
	}
}

func wantSums(t *testing.T, c impl.Cluster) {
	t.Helper()
	for _, n := range c.Nodes {
		used, ok := impl.Used(c, n.Id)
		free, fine := impl.Free(c, n.Id)
		sum, both := impl.ResAdd(used, free)
		if !ok || !fine || !both || sum != n.Cap {
			t.Errorf("of %+v in %s %v is used and %v is free", n, textOf(c), used, free)
		}
	}
}

func TestUsedAndFreeOfNothing(t *testing.T) {
	for _, c := range validClusters() {
		for _, id := range append(idsAtTheBounds(), 50) {
			if slices.ContainsFunc(c.Nodes, func(n impl.Node) bool { return n.Id == id }) {
				continue
			}
			used, ok := impl.Used(c, id)
			wantNoRes(t, fmt.Sprint("Used of no node ", id), used, ok)
			free, ok := impl.Free(c, id)
			wantNoRes(t, fmt.Sprint("Free of no node ", id), free, ok)
		}
	}
	for what, c := range brokenClusters() {
		for id := -1; id <= impl.MaxId+1; id++ {
			used, ok := impl.Used(c, id)
			wantNoRes(t, "Used with "+what, used, ok)
			free, ok := impl.Free(c, id)
			wantNoRes(t, "Free with "+what, free, ok)
		}
	}
}

func TestNodeOf(t *testing.T) {
	where := map[int]int{7: 9, 11: 5, 12: 5, 30: 2}
	for _, id := range append(idsAtTheBounds(), 2, 3, 5, 7, 9, 11, 12, 30, 40) {
		if got := impl.NodeOf(sample(), id); got != where[id] {
			t.Errorf("NodeOf(%d) is %d, want %d", id, got, where[id])
		}
	}
	for what, c := range brokenClusters() {
		for id := -1; id <= impl.MaxId+1; id++ {
			if got := impl.NodeOf(c, id); got != 0 {
				t.Errorf("NodeOf(%d) with %s is %d", id, what, got)
			}
		}
	}
}

// Promise 5, first part, for tasks.
func TestTaskAddAndDrop(t *testing.T) {
	for _, c := range validClusters() {
		if len(c.Tasks) == impl.MaxTasks {
			continue
		}
		for _, task := range []impl.Task{
			{Id: impl.MaxId},
			{Id: 50, Prio: 9, Need: amounts(most, 0, 1), Want: labsOf([]int{0, 9}), Tols: []int{1, 2, 3}},
			{Id: 31, Want: []impl.Lab{}, Tols: []int{}},
		} {
			want := c
			want.Tasks = append(slices.Clone(c.Tasks), task)
			got, code := impl.TaskAdd(c, task)
			wantCluster(t, "TaskAdd", got, code, want)
			if impl.NodeOf(got, task.Id) != 0 {
				t.Errorf("TaskAdd binds the task %d", task.Id)
			}
			got, code = impl.TaskDrop(got, task.Id)
			wantCluster(t, "TaskDrop of what was added", got, code, c)
		}
	}
}

func TestTaskAddUpToTheLimit(t *testing.T) {
	c := impl.Cluster{}
	for _, task := range tasksUpTo(impl.MaxTasks) {
		longer, code := impl.TaskAdd(c, task)
		if code != impl.DoFine {
			t.Fatalf("TaskAdd of %d has the code %d", task.Id, code)
		}
		c = longer
	}
	wantCluster(t, "TaskAdd of all", c, impl.DoFine, impl.Cluster{Tasks: tasksUpTo(impl.MaxTasks)})
	got, code := impl.TaskAdd(c, impl.Task{Id: impl.MaxId})
	wantRejected(t, "TaskAdd of one more", got, code, impl.DoFull)
	got, code = impl.TaskDrop(c, 1)
	wantCluster(t, "TaskDrop of the first", got, code, impl.Cluster{Tasks: tasksUpTo(impl.MaxTasks)[1:]})
	got, code = impl.TaskAdd(got, impl.Task{Id: impl.MaxId})
	wantCluster(t, "TaskAdd into the place of it", got, code, impl.Cluster{Tasks: append(tasksUpTo(impl.MaxTasks)[1:], impl.Task{Id: impl.MaxId})})
}

func TestTaskDrop(t *testing.T) {
	for at, task := range sample().Tasks {
		want := sample()
		want.Tasks = slices.Delete(want.Tasks, at, at+1)
		want.Binds = slices.DeleteFunc(want.Binds, func(b impl.Bind) bool { return b.Task == task.Id })
		got, code := impl.TaskDrop(sample(), task.Id)
		wantCluster(t, fmt.Sprint("TaskDrop of ", task.Id), got, code, want)
	}
	got, code := impl.TaskDrop(impl.Cluster{Tasks: tasksUpTo(1)}, 1)
	wantCluster(t, "TaskDrop of the only one", got, code, impl.Cluster{})
}

// Promise 5, first part, for nodes.
func TestNodeAddAndDrop(t *testing.T) {
	for _, c := range validClusters() {
		if len(c.Nodes) == impl.MaxNodes {
			continue
		}
		for _, id := range []int{1, 3, 4, 6, 8, 10, 50, impl.MaxId} {
			at := 0
			for at < len(c.Nodes) && c.Nodes[at].Id < id {
				at++
			}
			if at < len(c.Nodes) && c.Nodes[at].Id == id {
				continue
			}
			for _, node := range []impl.Node{
				{Id: id},
				{Id: id, Pool: 3, Cap: amounts(most, 0, 1), Labs: labsOf([]int{0, 9}), Taints: []int{1, 2, 3}, Cordon: true},
				{Id: id, Labs: []impl.Lab{}, Taints: []int{}},
			} {
				want := c
				want.Nodes = slices.Insert(slices.Clone(c.Nodes), at, node)
				got, code := impl.NodeAdd(c, node)
				wantCluster(t, fmt.Sprint("NodeAdd of ", id), got, code, want)
				got, code = impl.NodeDrop(got, id)
				wantCluster(t, fmt.Sprint("NodeDrop of ", id), got, code, c)
			}
		}
	}
}

func TestNodeAddPlaces(t *testing.T) {
	for id, want := range map[int][]int{1: {1, 2, 5, 9}, 3: {2, 3, 5, 9}, 8: {2, 5, 8, 9}, 10: {2, 5, 9, 10}, 99: {2, 5, 9, 99}} {
		got, code := impl.NodeAdd(sample(), impl.Node{Id: id})
		var ids []int
		for _, n := range got.Nodes {
			ids = append(ids, n.Id)
		}
		if code != impl.DoFine || !slices.Equal(ids, want) {
			t.Errorf("after NodeAdd of %d with the code %d the nodes are %v, want %v", id, code, ids, want)
		}
	}
}

func TestNodeAddUpToTheLimit(t *testing.T) {
	c := impl.Cluster{}
	for _, node := range slices.Backward(nodesUpTo(impl.MaxNodes)) {
		longer, code := impl.NodeAdd(c, node)
		if code != impl.DoFine {
			t.Fatalf("NodeAdd of %d has the code %d", node.Id, code)
		}
		c = longer
	}
	wantCluster(t, "NodeAdd of all", c, impl.DoFine, impl.Cluster{Nodes: nodesUpTo(impl.MaxNodes)})
	got, code := impl.NodeAdd(c, impl.Node{Id: impl.MaxId})
	wantRejected(t, "NodeAdd of one more", got, code, impl.DoFull)
	got, code = impl.NodeDrop(c, 1)
	wantCluster(t, "NodeDrop of the first", got, code, impl.Cluster{Nodes: nodesUpTo(impl.MaxNodes)[1:]})
	got, code = impl.NodeAdd(got, impl.Node{Id: impl.MaxId})
	wantCluster(t, "NodeAdd into the place of it", got, code, impl.Cluster{Nodes: append(nodesUpTo(impl.MaxNodes)[1:], impl.Node{Id: impl.MaxId})})
}

func TestNodeDrop(t *testing.T) {
	for id, binds := range map[int][]impl.Bind{
		2: {{Task: 7, Node: 9}, {Task: 11, Node: 5}, {Task: 12, Node: 5}},
		5: {{Task: 7, Node: 9}, {Task: 30, Node: 2}},
		9: {{Task: 11, Node: 5}, {Task: 12, Node: 5}, {Task: 30, Node: 2}},
	} {
		want := sample()
		want.Nodes = slices.DeleteFunc(want.Nodes, func(n impl.Node) bool { return n.Id == id })
		want.Binds = binds
		got, code := impl.NodeDrop(sample(), id)
		wantCluster(t, fmt.Sprint("NodeDrop of ", id), got, code, want)
	}
	// All bindings are to the node, and tasks have its Id.
	all := impl.Cluster{Tasks: tasksUpTo(2), Nodes: nodesUpTo(1), Binds: []impl.Bind{{Task: 1, Node: 1}, {Task: 2, Node: 1}}}
	got, code := impl.NodeDrop(all, 1)
	wantCluster(t, "NodeDrop of the only one", got, code, impl.Cluster{Tasks: tasksUpTo(2)})
}

func TestCordon(t *testing.T) {
	for _, c := range validClusters() {
		for at, n := range c.Nodes {
			for _, on := range []bool{true, false} {
				want := c
				want.Nodes = exchanged(c.Nodes, at, func(m *impl.Node) { m.Cordon = on })
				got, code := impl.Cordon(c, n.Id, on)
				wantCluster(t, fmt.Sprintf("Cordon(%d, %v)", n.Id, on), got, code, want)
				got, code = impl.Cordon(got, n.Id, n.Cordon)
				wantCluster(t, fmt.Sprintf("Cordon(%d, %v) and back", n.Id, on), got, code, c)
			}
		}
	}
}

// Promise 5, first part, for bindings: each possible one, also of a cluster in
// which others stay.
func TestBindDropAndAdd(t *testing.T) {
	for _, c := range validClusters() {
		for at, b := range c.Binds {
			open, code := impl.Cordon(c, b.Node, false)
			if code != impl.DoFine {
				t.Fatal(code)
			}
			want := open
			want.Binds = slices.Delete(slices.Clone(c.Binds), at, at+1)
			without, code := impl.BindDrop(open, b.Task)
			wantCluster(t, fmt.Sprint("BindDrop of ", b.Task), without, code, want)
			if impl.NodeOf(without, b.Task) != 0 {
				t.Errorf("after BindDrop the task %d is bound", b.Task)
			}
			got, code := impl.BindAdd(without, b)
			wantCluster(t, fmt.Sprint("BindAdd of ", b), got, code, open)
			if impl.NodeOf(got, b.Task) != b.Node {
				t.Errorf("after BindAdd of %v the task is on %d", b, impl.NodeOf(got, b.Task))
			}
			got, code = impl.BindDrop(got, b.Task)
			wantCluster(t, fmt.Sprint("BindDrop of what was added ", b), got, code, without)
		}
	}
}

func TestBindAddPlaces(t *testing.T) {
	for task, want := range map[int][]int{1: {1, 2, 4, 6}, 3: {2, 3, 4, 6}, 5: {2, 4, 5, 6}, 7: {2, 4, 6, 7}} {
		c := impl.Cluster{Tasks: tasksUpTo(7), Nodes: []impl.Node{{Id: 8, Cap: amounts(9, 9, 9)}}}
		slices.Reverse(c.Tasks)
		c.Binds = []impl.Bind{{Task: 2, Node: 8}, {Task: 4, Node: 8}, {Task: 6, Node: 8}}
		got, code := impl.BindAdd(c, impl.Bind{Task: task, Node: 8})
		var tasks []int
		for _, b := range got.Binds {
			tasks = append(tasks, b.Task)
		}
		if code != impl.DoFine || !slices.Equal(tasks, want) || !impl.ClusterOk(got) {
			t.Errorf("after BindAdd of %d with the code %d the bound tasks are %v, want %v", task, code, tasks, want)
		}
	}
}

func TestBindAddToCordonedNode(t *testing.T) {
	b := impl.Bind{Task: 3, Node: 2}
	closed, _ := impl.Cordon(sample(), 2, true)
	got, code := impl.BindAdd(closed, b)
	wantRejected(t, "BindAdd to a cordoned node", got, code, impl.DoHost)
	open, _ := impl.Cordon(closed, 2, false)
	want := sample()
	want.Binds = slices.Insert(want.Binds, 0, b)
	got, code = impl.BindAdd(open, b)
	wantCluster(t, "BindAdd after the cordon", got, code, want)
	// What is on a cordoned node stays there and can be removed.
	want.Nodes[0].Cordon = true
	got, code = impl.Cordon(got, 2, true)
	wantCluster(t, "Cordon of a node that is used", got, code, want)
	got, code = impl.BindDrop(got, 3)
	wantCluster(t, "BindDrop from a cordoned node", got, code, closed)
}

func TestBindDropOfNothing(t *testing.T) {
	for _, id := range append(idsAtTheBounds(), 2, 3, 5, 9, 40) {
		got, code := impl.BindDrop(sample(), id)
		wantRejected(t, fmt.Sprint("BindDrop of ", id), got, code, impl.DoNone)
	}
}

// doAll calls each function that changes a cluster, with Ids, and with a task
// and a node that are valid and new.
func doAll(c impl.Cluster, task int, node int) map[string]func() (impl.Cluster, int) {
	return map[string]func() (impl.Cluster, int){
		"TaskAdd":  func() (impl.Cluster, int) { return impl.TaskAdd(c, impl.Task{Id: 98}) },
		"TaskDrop": func() (impl.Cluster, int) { return impl.TaskDrop(c, task) },
		"NodeAdd":  func() (impl.Cluster, int) { return impl.NodeAdd(c, impl.Node{Id: 98}) },
		"NodeDrop": func() (impl.Cluster, int) { return impl.NodeDrop(c, node) },
		"Cordon":   func() (impl.Cluster, int) { return impl.Cordon(c, node, true) },
		"Uncordon": func() (impl.Cluster, int) { return impl.Cordon(c, node, false) },
		"BindAdd":  func() (impl.Cluster, int) { return impl.BindAdd(c, impl.Bind{Task: task, Node: node}) },
		"BindDrop": func() (impl.Cluster, int) { return impl.BindDrop(c, task) },
	}
}

// A cluster that is not valid is rejected with DoForm, whatever else applies:
// for every function, whether the Ids exist or not, and with a task that is
// bound, that is not hosted or that has no room.
func TestFormComesFirst(t *testing.T) {
	for what, c := range brokenClusters() {
		for _, task := range []int{0, 3, 30, 40, 50, 100} {
			for _, node := range []int{0, 2, 5, 9, 50, 100} {
				for name, do := range doAll(c, task, node) {
					got, code := do()
					wantRejected(t, fmt.Sprint(name, " of ", task, " and ", node, " with ", what), got, code, impl.DoForm)
				}
			}
		}
	}
}

// In a valid cluster an Id that is no Id of a task or node does not exist.
func TestNoneForEveryId(t *testing.T) {
	for _, id := range append(idsAtTheBounds(), 50) {
		for name, do := range doAll(sample(), id, id) {
			if name == "TaskAdd" || name == "NodeAdd" {
				continue
			}
			got, code := do()
			wantRejected(t, fmt.Sprint(name, " of ", id), got, code, impl.DoNone)
		}
	}
	// The Id of a node is not that of a task, and the reverse.
	for name, do := range doAll(sample(), 2, 30) {
		if name == "TaskAdd" || name == "NodeAdd" {
			continue
		}
		got, code := do()
		wantRejected(t, name+" with the Ids exchanged", got, code, impl.DoNone)
	}
}

func TestOrderOfErrorsOfTaskAdd(t *testing.T) {
	tooMany := impl.Cluster{Tasks: tasksUpTo(impl.MaxTasks + 1)}
	for _, c := range []struct {
		what string
		c    impl.Cluster
		task impl.Task
		want int
	}{
		{"twice", sample(), impl.Task{Id: 30}, impl.DoTwice},
		{"twice, the same task", sample(), sample().Tasks[5], impl.DoTwice},
		{"full", fullCluster(), impl.Task{Id: 31}, impl.DoFull},
		{"form of the task", sample(), impl.Task{Id: 31, Prio: 10}, impl.DoForm},
		{"form of the task and twice", sample(), impl.Task{Id: 30, Prio: 10}, impl.DoForm},
		{"form of the task and full", fullCluster(), impl.Task{Id: 31, Prio: 10}, impl.DoForm},
		{"form of the task, twice and full", fullCluster(), impl.Task{Id: 30, Prio: 10}, impl.DoForm},
		{"form of the cluster and twice", tooMany, impl.Task{Id: 30}, impl.DoForm},
		{"form of the cluster and full", tooMany, impl.Task{Id: 99}, impl.DoForm},
		{"form of both", tooMany, impl.Task{}, impl.DoForm},
		{"twice and full", fullCluster(), impl.Task{Id: 30}, impl.DoTwice},
		{"twice and full at the front", fullCluster(), impl.Task{Id: 1}, impl.DoTwice},
	} {
		got, code := impl.TaskAdd(c.c, c.task)
		wantRejected(t, "TaskAdd, "+c.what, got, code, c.want)
	}
	for _, bad := range invalidTasks(impl.Task{Id: 30}) {
		got, code := impl.TaskAdd(fullCluster(), bad)
		wantRejected(t, fmt.Sprintf("TaskAdd of %+v", bad), got, code, impl.DoForm)
	}
}

func TestOrderOfErrorsOfNodeAdd(t *testing.T) {
	tooMany := impl.Cluster{Nodes: nodesUpTo(impl.MaxNodes + 1)}
	for _, c := range []struct {
		what string
		c    impl.Cluster
		node impl.Node
		want int
	}{
		{"twice", sample(), impl.Node{Id: 5}, impl.DoTwice},
		{"twice, the same node", sample(), sample().Nodes[2], impl.DoTwice},
		{"full", fullCluster(), impl.Node{Id: 21}, impl.DoFull},
		{"form of the node", sample(), impl.Node{Id: 1, Pool: 5}, impl.DoForm},
		{"form of the node and twice", sample(), impl.Node{Id: 5, Pool: 5}, impl.DoForm},
		{"form of the node and full", fullCluster(), impl.Node{Id: 21, Pool: 5}, impl.DoForm},
		{"form of the node, twice and full", fullCluster(), impl.Node{Id: 20, Pool: 5}, impl.DoForm},
		{"form of the cluster and twice", tooMany, impl.Node{Id: 20}, impl.DoForm},
		{"form of the cluster and full", tooMany, impl.Node{Id: 99}, impl.DoForm},
		{"form of both", tooMany, impl.Node{}, impl.DoForm},
		{"twice and full", fullCluster(), impl.Node{Id: 20}, impl.DoTwice},
		{"twice and full at the front", fullCluster(), impl.Node{Id: 1}, impl.DoTwice},
	} {
		got, code := impl.NodeAdd(c.c, c.node)
		wantRejected(t, "NodeAdd, "+c.what, got, code, c.want)
	}
	for _, bad := range invalidNodes(impl.Node{Id: 20}) {
		got, code := impl.NodeAdd(fullCluster(), bad)
		wantRejected(t, fmt.Sprintf("NodeAdd of %+v", bad), got, code, impl.DoForm)
	}
}

func TestOrderOfErrorsOfBindAdd(t *testing.T) {
	c := impl.Cluster{
		Tasks: []impl.Task{
			{Id: 1, Need: amounts(4, 4, 2)}, // on node 1
			{Id: 2, Need: amounts(1, 0, 0)}, // small
			{Id: 3, Need: amounts(9, 9, 9)}, // too large for every node
			{Id: 4, Need: amounts(9, 9, 9), Want: []impl.Lab{{Key: 0, Val: 0}}},
			{Id: 5, Want: []impl.Lab{{Key: 0, Val: 0}}},
		},
		Nodes: []impl.Node{
			{Id: 1, Cap: amounts(4, 4, 2)}, // full
			{Id: 2, Cap: amounts(4, 4, 2)},
			{Id: 3, Cap: amounts(4, 4, 2), Cordon: true},
			{Id: 4, Cap: amounts(4, 4, 2), Taints: []int{7}},
			{Id: 5, Cordon: true, Taints: []int{7}},
			{Id: 6},
		},
		Binds: []impl.Bind{{Task: 1, Node: 1}},
	}
	for _, b := range []struct {
		what string
		bind impl.Bind
		want int
	}{
		{"no task", impl.Bind{Task: 9, Node: 2}, impl.DoNone},
		{"no node", impl.Bind{Task: 2, Node: 9}, impl.DoNone},
		{"neither", impl.Bind{Task: 9, Node: 9}, impl.DoNone},
		{"the zero value", impl.Bind{}, impl.DoNone},
		{"no node and bound", impl.Bind{Task: 1, Node: 9}, impl.DoNone},
		{"no task and cordoned", impl.Bind{Task: 9, Node: 3}, impl.DoNone},
		{"no task and tainted", impl.Bind{Task: 9, Node: 4}, impl.DoNone},
		{"no node and wanted labels", impl.Bind{Task: 5, Node: 9}, impl.DoNone},
		{"no task and no room", impl.Bind{Task: 9, Node: 1}, impl.DoNone},
		{"no node and no room", impl.Bind{Task: 3, Node: 9}, impl.DoNone},
		{"bound to it", impl.Bind{Task: 1, Node: 1}, impl.DoBound},
		{"bound and fine", impl.Bind{Task: 1, Node: 2}, impl.DoBound},
		{"bound and cordoned", impl.Bind{Task: 1, Node: 3}, impl.DoBound},
		{"bound and tainted", impl.Bind{Task: 1, Node: 4}, impl.DoBound},
		{"bound, cordoned, tainted and no room", impl.Bind{Task: 1, Node: 5}, impl.DoBound},
		{"bound and no room", impl.Bind{Task: 1, Node: 6}, impl.DoBound},
		{"cordoned", impl.Bind{Task: 2, Node: 3}, impl.DoHost},
		{"tainted", impl.Bind{Task: 2, Node: 4}, impl.DoHost},
		{"wanted labels", impl.Bind{Task: 5, Node: 2}, impl.DoHost},
		{"cordoned and tainted", impl.Bind{Task: 2, Node: 5}, impl.DoHost},
		{"cordoned and no room", impl.Bind{Task: 3, Node: 3}, impl.DoHost},
		{"tainted and no room", impl.Bind{Task: 3, Node: 4}, impl.DoHost},
		{"wanted labels and no room", impl.Bind{Task: 4, Node: 1}, impl.DoHost},
		{"no room on a full node", impl.Bind{Task: 2, Node: 1}, impl.DoRoom},
		{"no room on an empty node", impl.Bind{Task: 3, Node: 2}, impl.DoRoom},
		{"no room without capacity", impl.Bind{Task: 2, Node: 6}, impl.DoRoom},
	} {
		got, code := impl.BindAdd(c, b.bind)
		wantRejected(t, "BindAdd, "+b.what, got, code, b.want)
		// The same with a cluster that is not valid, for a reason that leaves
		// this one in place.
		broken := c
		broken.Tasks = append(slices.Clone(c.Tasks), impl.Task{Id: 8, Prio: 10})
		got, code = impl.BindAdd(broken, b.bind)
		wantRejected(t, "BindAdd, form and "+b.what, got, code, impl.DoForm)
	}
	want := c
	want.Binds = []impl.Bind{{Task: 1, Node: 1}, {Task: 2, Node: 2}}
	got, code := impl.BindAdd(c, impl.Bind{Task: 2, Node: 2})
	wantCluster(t, "BindAdd, none of them", got, code, want)
}

// spacious returns a copy of a cluster in which every list has spare capacity,
// filled with what would be seen if it were read.
func spacious(c impl.Cluster) impl.Cluster {
	var tasks []impl.Task
	for _, t := range append(slices.Clone(c.Tasks), impl.Task{Id: 97}, impl.Task{Id: -1}) {
		tasks = append(tasks, spaciousTask(t))
	}
	var nodes []impl.Node
	for _, n := range append(slices.Clone(c.Nodes), impl.Node{Id: 97}, impl.Node{Id: -1}) {
		nodes = append(nodes, spaciousNode(n))
	}
	binds := append(slices.Clone(c.Binds), impl.Bind{Task: 97, Node: 97}, impl.Bind{Task: -1, Node: -1})
	return impl.Cluster{Tasks: tasks[:len(c.Tasks)], Nodes: nodes[:len(c.Nodes)], Binds: binds[:len(c.Binds)]}
}

func spaciousTask(t impl.Task) impl.Task {
	t.Want = append(slices.Clone(t.Want), impl.Lab{Key: -7, Val: -7})[:len(t.Want)]
	t.Tols = append(slices.Clone(t.Tols), -7)[:len(t.Tols)]
	return t
}

func spaciousNode(n impl.Node) impl.Node {
	n.Labs = append(slices.Clone(n.Labs), impl.Lab{Key: -7, Val: -7})[:len(n.Labs)]
	n.Taints = append(slices.Clone(n.Taints), -7)[:len(n.Taints)]
	return n
}

// operation is a call of one of the functions that change a cluster.
type operation struct {
	name string
	task impl.Task
	node impl.Node
	id   int
	on   bool
	bind impl.Bind
}

func (o operation) do(c impl.Cluster) (impl.Cluster, int) {
	switch o.name {
	case "TaskAdd":
		return impl.TaskAdd(c, o.task)
	case "TaskDrop":
		return impl.TaskDrop(c, o.id)
	case "NodeAdd":
		return impl.NodeAdd(c, o.node)
	case "NodeDrop":
		return impl.NodeDrop(c, o.id)
	case "Cordon":
		return impl.Cordon(c, o.id, o.on)
	case "BindAdd":
		return impl.BindAdd(c, o.bind)
	default:
		return impl.BindDrop(c, o.id)
	}
}

// operationsOn returns operations of each kind, of which most are accepted, with
// some of the tasks and nodes of the cluster.
func operationsOn(c impl.Cluster) []operation {
	out := []operation{
		{name: "TaskAdd", task: spaciousTask(impl.Task{Id: 97, Want: labsOf([]int{1, 2}), Tols: []int{3, 4}})},
		{name: "TaskAdd", task: spaciousTask(impl.Task{Id: 96})},
		{name: "TaskAdd", task: spaciousTask(impl.Task{Id: 1, Prio: 10, Tols: []int{1}})},
	}
	for _, id := range []int{1, 4, 97} {
		out = append(out, operation{name: "NodeAdd", node: spaciousNode(impl.Node{Id: id, Labs: labsOf([]int{1, 2}), Taints: []int{3, 4}})})
		out = append(out, operation{name: "NodeAdd", node: spaciousNode(impl.Node{Id: id})})
	}
	tasks, nodes := c.Tasks[:min(6, len(c.Tasks))], c.Nodes[:min(3, len(c.Nodes))]
	for _, task := range tasks {
		out = append(out, operation{name: "TaskDrop", id: task.Id}, operation{name: "BindDrop", id: task.Id})
		for _, node := range nodes {
			out = append(out, operation{name: "BindAdd", bind: impl.Bind{Task: task.Id, Node: node.Id}})
		}
	}
	for _, node := range nodes {
		out = append(out, operation{name: "NodeDrop", id: node.Id})
		out = append(out, operation{name: "Cordon", id: node.Id, on: true}, operation{name: "Cordon", id: node.Id})
	}
	return out
}

func TestClusterChangesNoArgumentAndSharesNoMemory(t *testing.T) {
	clusters := validClusters()
	for _, c := range brokenClusters() {
		clusters = append(clusters, c)
	}
	for _, c := range clusters {
		plain := impl.ClusterOk(c)
		given := spacious(c)
		before := wholeText(reflect.ValueOf(given))
		readAll(given)
		for _, o := range operationsOn(c) {
			with := wholeText(reflect.ValueOf(o))
			got, code := o.do(given)
			if now := wholeText(reflect.ValueOf(given)); now != before {
				t.Fatalf("%+v changed the cluster %s to %s", o, before, now)
			}
			if now := wholeText(reflect.ValueOf(o)); now != with {
				t.Fatalf("%s changed its argument %s to %s", o.name, with, now)
			}
			wantOwnMemory(t, o.name, got, given, o.task, o.node)
			// The same without spare capacity: nothing behind a list is read.
			want, wantCode := o.do(c)
			if code != wantCode || textOf(got) != textOf(want) || impl.ClusterOk(given) != plain {
				t.Fatalf("%+v depends on what is behind the lists", o)
			}
		}
	}
}

// readAll calls the functions that return no cluster.
func readAll(c impl.Cluster) {
	impl.ClusterOk(c)
	for _, id := range []int{-1, 0, 1, 2, 5, 9, 30, 97} {
		impl.Used(c, id)
		impl.Free(c, id)
		impl.NodeOf(c, id)
	}
	for _, n := range c.Nodes {
		impl.NodeOk(n)
		for _, t := range c.Tasks {
			impl.TaskOk(t)
			impl.CanHost(n, t)
		}
	}
}

// A result does not become part of the next one.
func TestResultsOfTwoCallsShareNoMemory(t *testing.T) {
	c := sample()
	for _, o := range operationsOn(c) {
		first, _ := o.do(c)
		second, _ := o.do(c)
		third, _ := impl.TaskAdd(first, impl.Task{Id: 95})
		wantOwnMemory(t, o.name, second, first, third)
		wantOwnMemory(t, "TaskAdd after "+o.name, third, first)
	}
}

func TestNilAndEmptyListsAreTheSame(t *testing.T) {
	empty := impl.Cluster{
		Tasks: []impl.Task{{Id: 1, Want: []impl.Lab{}, Tols: []int{}}, {Id: 2}},
		Nodes: []impl.Node{{Id: 1, Labs: []impl.Lab{}, Taints: []int{}}, {Id: 2}},
		Binds: []impl.Bind{},
	}
	none := impl.Cluster{Tasks: []impl.Task{{Id: 1}, {Id: 2}}, Nodes: []impl.Node{{Id: 1}, {Id: 2}}}
	for _, o := range operationsOn(none) {
		want, wantCode := o.do(none)
		got, code := o.do(empty)
		if code != wantCode || textOf(got) != textOf(want) {
			t.Errorf("%+v is %s, %d with empty lists and %s, %d with nil", o, textOf(got), code, textOf(want), wantCode)
		}
	}
	for _, c := range []impl.Cluster{{}, {Tasks: []impl.Task{}, Nodes: []impl.Node{}, Binds: []impl.Bind{}}} {
		got, code := impl.TaskAdd(c, impl.Task{Id: 1})
		wantCluster(t, "TaskAdd to the empty cluster", got, code, impl.Cluster{Tasks: []impl.Task{{Id: 1}}})
		got, code = impl.NodeAdd(c, impl.Node{Id: 1})
		wantCluster(t, "NodeAdd to the empty cluster", got, code, impl.Cluster{Nodes: []impl.Node{{Id: 1}}})
	}
}
