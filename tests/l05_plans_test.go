package tests

import (
	"fmt"
	"math"
	"reflect"
	"slices"
	"testing"

	"loop.example/g00718/impl"
)

// poolOf has nodes with the same capacity in every field.
func poolOf(id int, least int, greatest int, amount int) impl.Pool {
	return impl.Pool{Id: id, Min: least, Max: greatest, Shape: impl.Node{Id: 1, Pool: id, Cap: even(amount)}}
}

func withPrio(p impl.Pool, prio int) impl.Pool {
	p.Prio = prio
	return p
}

// nodesIn returns a node for each pool, with the Ids from first on.
func nodesIn(first int, amount int, pools ...int) []impl.Node {
	var out []impl.Node
	for at, pool := range pools {
		out = append(out, impl.Node{Id: first + at, Pool: pool, Cap: even(amount)})
	}
	return out
}

// many repeats a pool.
func many(pool int, number int) []int { return slices.Repeat([]int{pool}, number) }

// tasksOf returns a task for each need, with the Ids from 1 on and the same
// amount in every field.
func tasksOf(needs ...int) []impl.Task {
	var out []impl.Task
	for at, need := range needs {
		out = append(out, taskOf(at+1, 0, even(need)))
	}
	return out
}

func allKinds() []int { return []int{impl.ByTasks, impl.ByShare, impl.ByPrio} }

func otherKinds() []int { return []int{math.MinInt, -1, 0, 4, 5, math.MaxInt} }

func wantActs(t *testing.T, what string, got []impl.Act, want ...impl.Act) {
	t.Helper()
	if !slices.Equal(got, want) {
		t.Errorf("the actions of %s are %v, want %v", what, got, want)
	}
}

// wantGrowPicks expects the same pool for every kind.
func wantGrowPicks(t *testing.T, what string, c impl.Cluster, list []impl.Pool, want int) {
	t.Helper()
	for _, kind := range allKinds() {
		wantInt(t, fmt.Sprintf("GrowPick by %d, %s,", kind, what), impl.GrowPick(c, list, kind), want)
	}
}

func wantSettled(t *testing.T, what string, p plan, want bool) {
	t.Helper()
	if p.settled() != want {
		t.Errorf("Settled, %s: %s, want %v", what, p.text(), want)
	}
}

func TestPlansExample(t *testing.T) {
	c := impl.Cluster{Tasks: tasksOf(3, 3)}
	p := plan{c, []impl.Pool{poolOf(0, 0, 2, 4)}, impl.ByTasks, 300, 5}
	wantSettled(t, "before", p, false)
	got, acts := p.settle()
	wantActs(t, "the example", acts, impl.Act{Kind: impl.ActGrow, Node: 5}, impl.Act{Kind: impl.ActGrow, Node: 6})
	want := c
	want.Nodes = nodesIn(5, 4, 0, 0)
	want.Binds = []impl.Bind{{Task: 1, Node: 5}, {Task: 2, Node: 6}}
	wantCluster(t, "Settle of the example", got, impl.DoFine, want)
	p.c = got
	wantSettled(t, "after", p, true)
}

// goodPool has the labels and taints that a shape can have, and bounds that can
// be changed on their own.
func goodPool() impl.Pool {
	shape := impl.Node{Id: 1, Pool: 2, Cap: amounts(0, 1, most), Labs: labsOf([]int{0, 1, 2, 3, 4, 5}), Taints: []int{0, 2, 4, 6, 8, 9}}
	return impl.Pool{Id: 2, Min: 3, Max: 7, Prio: 5, Shape: shape}
}

// invalidPools returns copies of a pool that are not valid in one field.
func invalidPools(good impl.Pool) []impl.Pool {
	var out []impl.Pool
	with := func(change func(*impl.Pool)) { out = append(out, exchanged([]impl.Pool{good}, 0, change)...) }
	for _, id := range []int{math.MinInt, -1, impl.MaxPools, math.MaxInt} {
		// The Shape is of the same pool, so that the Id alone can be the reason,
		// or of another one.
		with(func(p *impl.Pool) { p.Id = id })
		with(func(p *impl.Pool) { p.Id, p.Shape.Pool = id, id })
		with(func(p *impl.Pool) { p.Shape.Pool = id })
	}
	with(func(p *impl.Pool) { p.Shape.Pool = (p.Id + 1) % impl.MaxPools })
	for _, least := range []int{math.MinInt, -1, good.Max + 1, math.MaxInt} {
		with(func(p *impl.Pool) { p.Min = least })
	}
	for _, greatest := range []int{math.MinInt, -1, good.Min - 1, impl.MaxNodes + 1, math.MaxInt} {
		with(func(p *impl.Pool) { p.Max = greatest })
	}
	with(func(p *impl.Pool) { p.Min, p.Max = -1, -1 })
	with(func(p *impl.Pool) { p.Min, p.Max = impl.MaxNodes+1, impl.MaxNodes+1 })
	for _, prio := range []int{math.MinInt, -1, 10, math.MaxInt} {
		with(func(p *impl.Pool) { p.Prio = prio })
	}
	for _, id := range []int{math.MinInt, -1, 0, 2, impl.MaxId, math.MaxInt} {
		with(func(p *impl.Pool) { p.Shape.Id = id })
	}
	with(func(p *impl.Pool) { p.Shape.Cordon = true })
	with(func(p *impl.Pool) { p.Shape = impl.Node{} })
	for _, shape := range invalidNodes(good.Shape) {
		with(func(p *impl.Pool) { p.Shape = shape })
	}
	return out
}

func TestPoolOk(t *testing.T) {
	if !impl.PoolOk(goodPool()) || impl.PoolOk(impl.Pool{}) || !impl.PoolOk(impl.Pool{Shape: impl.Node{Id: 1}}) {
		t.Error("PoolOk of a simple pool is wrong")
	}
	for _, bounds := range [][2]int{{0, 0}, {0, 1}, {1, 1}, {0, impl.MaxNodes}, {7, impl.MaxNodes}, {impl.MaxNodes, impl.MaxNodes}} {
		if p := poolOf(3, bounds[0], bounds[1], 4); !impl.PoolOk(p) {
			t.Errorf("PoolOk(%+v) is false", p)
		}
	}
	for id := range impl.MaxPools {
		if !impl.PoolOk(poolOf(id, 0, 0, 0)) || !impl.PoolOk(withPrio(poolOf(id, 0, 0, most), 9)) {
			t.Errorf("PoolOk with the Id %d is false", id)
		}
	}
	for _, p := range invalidPools(goodPool()) {
		if impl.PoolOk(p) {
			t.Errorf("PoolOk(%+v) is true", p)
		}
	}
}

// fivePools has every Id.
func fivePools() []impl.Pool {
	var out []impl.Pool
	for id := range impl.MaxPools {
		out = append(out, poolOf(id, 0, 2, 4))
	}
	return out
}

// invalidPoolLists returns lists that differ from a valid one in the length, the
// order or one pool.
func invalidPoolLists() map[string][]impl.Pool {
	five := fivePools()
	out := map[string][]impl.Pool{
		"a pool twice":           {five[1], five[1]},
		"an Id twice":            {five[1], withPrio(five[1], 3)},
		"an Id twice at the end": {five[0], five[3], five[4], five[4]},
		"an Id again":            {five[0], five[1], five[0]},
		"decreasing Ids":         {five[2], five[1]},
		"decreasing Ids at last": {five[0], five[1], five[4], five[3]},
		"too many":               append(slices.Clone(five), five[4]),
		"too many, another Id":   append(slices.Clone(five), poolOf(5, 0, 2, 4)),
		"many of the zero value": make([]impl.Pool, 1000),
		"one of the zero value":  make([]impl.Pool, 1),
	}
	for at := range five {
		out[fmt.Sprintf("too high a Max at %d", at)] = exchanged(five, at, func(p *impl.Pool) { p.Max = impl.MaxNodes + 1 })
		out[fmt.Sprintf("a cordoned Shape at %d", at)] = exchanged(five, at, func(p *impl.Pool) { p.Shape.Cordon = true })
	}
	for at, p := range invalidPools(goodPool()) {
		out[fmt.Sprintf("the invalid pool %d", at)] = []impl.Pool{five[0], p, five[3]}
		out[fmt.Sprintf("the invalid pool %d alone", at)] = []impl.Pool{p}
	}
	return out
}

func TestPoolsOk(t *testing.T) {
	five := fivePools()
	for _, list := range [][]impl.Pool{nil, {}, five, five[:1], five[4:], {five[0], five[4]}, {five[1], goodPool(), five[3]}} {
		if !impl.PoolsOk(list) {
			t.Errorf("PoolsOk(%+v) is false", list)
		}
	}
	for what, list := range invalidPoolLists() {
		if impl.PoolsOk(list) {
			t.Errorf("PoolsOk accepts %s", what)
		}
	}
}

func TestPoolNode(t *testing.T) {
	p := goodPool()
	for _, id := range append(idsAtTheBounds(), 2, 50) {
		want := p.Shape
		want.Id = id
		if !isId(id) {
			want = impl.Node{}
		}
		got, ok := impl.PoolNode(p, id)
		if ok != isId(id) || !reflect.DeepEqual(got, want) {
			t.Errorf("PoolNode with the Id %d is %+v, %v, want %+v", id, got, ok, want)
		}
	}
	for _, bad := range invalidPools(p) {
		for _, id := range []int{1, 50} {
			if got, ok := impl.PoolNode(bad, id); ok || !reflect.DeepEqual(got, impl.Node{}) {
				t.Errorf("PoolNode of %+v is %+v, %v", bad, got, ok)
			}
		}
	}
	// The bounds of the pool do not matter.
	if _, ok := impl.PoolNode(poolOf(0, 0, 0, 4), 9); !ok {
		t.Error("PoolNode of a pool with the Max 0 is false")
	}
}

func TestPoolCount(t *testing.T) {
	c := impl.Cluster{Nodes: nodesIn(3, 4, 0, 4, 4, 2, 4)}
	c.Nodes[2].Cordon = true
	for pool, want := range map[int]int{0: 1, 1: 0, 2: 1, 3: 0, 4: 3, -1: 0, 5: 0, math.MinInt: 0, math.MaxInt: 0} {
		wantInt(t, fmt.Sprintf("PoolCount(%d)", pool), impl.PoolCount(c, pool), want)
		wantInt(t, fmt.Sprintf("PoolCount(%d) of the empty cluster", pool), impl.PoolCount(impl.Cluster{}, pool), 0)
	}
	full := impl.Cluster{Nodes: nodesIn(1, 4, many(3, impl.MaxNodes)...)}
	wantInt(t, "PoolCount of all nodes", impl.PoolCount(full, 3), impl.MaxNodes)
}

func TestGain(t *testing.T) {
	labelled := poolOf(1, 0, 2, 4)
	labelled.Shape.Labs, labelled.Shape.Taints = []impl.Lab{{Key: 1, Val: 2}}, []int{5}
	wanting := taskOf(1, 0, even(1))
	wanting.Want, wanting.Tols = []impl.Lab{{Key: 1, Val: 2}}, []int{5}
	for _, g := range []struct {
		what string
		c    impl.Cluster
		p    impl.Pool
		want int
	}{
		{"the empty cluster", impl.Cluster{}, poolOf(0, 0, 2, 4), 0},
		{"one task", impl.Cluster{Tasks: tasksOf(4)}, poolOf(0, 0, 2, 4), 1},
		{"tasks that share a node", impl.Cluster{Tasks: tasksOf(2, 1, 1)}, poolOf(0, 0, 2, 4), 3},
		{"one task more than fits", impl.Cluster{Tasks: tasksOf(2, 1, 1, 1)}, poolOf(0, 0, 2, 4), 3},
		{"a task that is too large", impl.Cluster{Tasks: tasksOf(5)}, poolOf(0, 0, 2, 4), 0},
		{"a task that is not tolerated", impl.Cluster{Tasks: tasksOf(1)}, labelled, 0},
		{"a task that wants the label", impl.Cluster{Tasks: []impl.Task{wanting}}, labelled, 1},
		{"a task that wants a label", impl.Cluster{Tasks: []impl.Task{wanting}}, poolOf(0, 0, 2, 4), 0},
		{"tasks without needs and a node without capacity", impl.Cluster{Tasks: tasksOf(0, 0)}, poolOf(0, 0, 2, 0), 2},
		{"a task that has a node already", impl.Cluster{Tasks: tasksOf(4), Nodes: nodesIn(9, 4, 0)}, poolOf(0, 0, 2, 4), 0},
		{"a task with a worse node", impl.Cluster{Tasks: tasksOf(4), Nodes: nodesIn(9, 8, 0)}, poolOf(0, 0, 2, 4), 0},
		{"one task of two with a node", impl.Cluster{Tasks: tasksOf(4, 4), Nodes: nodesIn(9, 4, 0)}, poolOf(0, 0, 2, 4), 1},
		{"a bound task", impl.Cluster{Tasks: tasksOf(4), Nodes: nodesIn(9, 4, 0), Binds: []impl.Bind{{Task: 1, Node: 9}}}, poolOf(0, 0, 2, 4), 0},
		{"a pool with the Max 0", impl.Cluster{Tasks: tasksOf(4)}, poolOf(0, 0, 0, 4), 1},
		{"a pool at its Max", impl.Cluster{Tasks: tasksOf(4, 4), Nodes: nodesIn(9, 4, 0)}, poolOf(0, 0, 1, 4), 1},
		{"a pool above its Max", impl.Cluster{Tasks: tasksOf(4, 4, 4), Nodes: nodesIn(9, 4, 0, 0)}, poolOf(0, 0, 1, 4), 1},
	} {
		wantInt(t, "Gain, "+g.what+",", impl.Gain(g.c, g.p), g.want)
	}
}

// The first task goes to the added node, which it fills; the second takes all
// of the other one, which the first and the small ones would have shared.
func TestGainBelowZero(t *testing.T) {
	for small := range 9 {
		needs := append([]int{4, 12}, slices.Repeat([]int{1}, small)...)
		c := impl.Cluster{Tasks: tasksOf(needs...), Nodes: nodesIn(9, 12, 0)}
		p := poolOf(1, 0, 5, 4)
		wantInt(t, fmt.Sprintf("Gain with %d small tasks", small), impl.Gain(c, p), 1-small)
		// Such a pool grows only to reach its Min.
		want := -1
		if small == 0 {
			want = 1
		}
		wantGrowPicks(t, fmt.Sprintf("%d small tasks", small), c, []impl.Pool{p}, want)
		wantGrowPicks(t, "below Min in spite of its Gain", c, []impl.Pool{poolOf(1, 1, 5, 4)}, 1)
	}
}

// The clusters have MaxNodes nodes, the node MaxId, both, or one less.
func TestGainWithoutAPlaceForTheNode(t *testing.T) {
	narrow, wide := poolOf(2, 0, impl.MaxNodes, 4), poolOf(3, 0, 1, 8)
	tasks := tasksOf(4, 4, 2)
	for _, c := range []impl.Cluster{
		{Tasks: tasks, Nodes: nodesIn(1, 1, many(0, impl.MaxNodes)...)},
		{Tasks: tasks, Nodes: nodesIn(impl.MaxId, 1, 0)},
		{Tasks: tasks, Nodes: nodesIn(impl.MaxId-impl.MaxNodes+1, 1, many(0, impl.MaxNodes)...)},
		{Tasks: tasks, Nodes: nodesIn(1, 1, many(0, impl.MaxNodes-1)...)},
		{Tasks: tasks, Nodes: nodesIn(impl.MaxId-1, 1, 0)},
		{Tasks: tasks, Nodes: nodesIn(impl.MaxId-1, 1, 0, 2)},
	} {
		what := fmt.Sprintf("%d nodes up to %d,", len(c.Nodes), greatestId(c))
		wantInt(t, "Gain, "+what, impl.Gain(c, narrow), 1)
		wantInt(t, "Gain, a large node, "+what, impl.Gain(c, wide), 2)
		first, better := 2, 3
		if len(c.Nodes) == impl.MaxNodes {
			first, better = -1, -1
		}
		wantGrowPicks(t, what, c, []impl.Pool{narrow}, first)
		wantInt(t, "GrowPick, "+what, impl.GrowPick(c, []impl.Pool{narrow, wide}, impl.ByTasks), better)
	}
}

// The added node comes after all others: a task that has equal Scores goes to
// the other one, and leaves the added one to the task that wants its label.
func TestGainWithEqualScores(t *testing.T) {
	p := poolOf(1, 0, 2, 4)
	p.Shape.Labs = []impl.Lab{{Key: 7, Val: 7}}
	tasks := []impl.Task{taskOf(1, 9, even(4)), taskOf(2, 0, even(4))}
	tasks[1].Want = p.Shape.Labs
	for _, id := range []int{1, 50, impl.MaxId} {
		c := impl.Cluster{Tasks: tasks, Nodes: nodesIn(id, 4, 0)}
		wantInt(t, fmt.Sprintf("Gain with the node %d", id), impl.Gain(c, p), 1)
	}
	full := impl.Cluster{Tasks: tasks, Nodes: nodesIn(80, 4, many(0, impl.MaxNodes)...)}
	wantInt(t, "Gain with the node 99 as the last of 20", impl.Gain(full, p), 1)
}

func TestGrowPickAtTheBoundsOfAPool(t *testing.T) {
	for _, g := range []struct {
		what            string
		nodes           int
		least, greatest int
		gains, without  int // with a task that gains by a node, and without
	}{
		{"Max is 0", 0, 0, 0, -1, -1},
		{"one node, Max is 0", 1, 0, 0, -1, -1},
		{"no nodes, Min is 0", 0, 0, 1, 2, -1},
		{"no nodes, Min and Max are 1", 0, 1, 1, 2, 2},
		{"at Min and Max", 1, 1, 1, -1, -1},
		{"above Min and Max", 2, 1, 1, -1, -1},
		{"one below Min", 2, 3, 5, 2, 2},
		{"at Min", 3, 3, 5, 2, -1},
		{"one below Max", 4, 3, 5, 2, -1},
		{"at Max", 5, 3, 5, -1, -1},
		{"one above Max", 6, 3, 5, -1, -1},
		{"one below MaxNodes as Min", impl.MaxNodes - 1, impl.MaxNodes, impl.MaxNodes, 2, 2},
		{"one below MaxNodes as Max", impl.MaxNodes - 1, 0, impl.MaxNodes, 2, -1},
		{"MaxNodes", impl.MaxNodes, 0, impl.MaxNodes, -1, -1},
		{"MaxNodes as Min", impl.MaxNodes, impl.MaxNodes, impl.MaxNodes, -1, -1},
	} {
		list := []impl.Pool{poolOf(2, g.least, g.greatest, 4)}
		c := impl.Cluster{Nodes: nodesIn(1, 1, many(2, g.nodes)...)}
		wantGrowPicks(t, g.what, c, list, g.without)
		c.Tasks = tasksOf(4)
		wantGrowPicks(t, g.what+" and a task", c, list, g.gains)
	}
}

func TestGrowPickOfAFullCluster(t *testing.T) {
	// The pool is below Min, and the nodes are of others.
	list := []impl.Pool{poolOf(1, 1, 3, 4)}
	for _, number := range []int{impl.MaxNodes - 1, impl.MaxNodes} {
		c := impl.Cluster{Tasks: tasksOf(4), Nodes: nodesIn(1, 1, many(0, number)...)}
		wantGrowPicks(t, fmt.Sprint(number, " nodes of no pool of the list"), c, list, []int{1, -1}[number-impl.MaxNodes+1])
		wantGrowPicks(t, fmt.Sprint(number, " nodes of another pool"), c, []impl.Pool{poolOf(0, 0, 20, 1), list[0]}, []int{1, -1}[number-impl.MaxNodes+1])
	}
}

func TestGrowPickBelowMin(t *testing.T) {
	c := impl.Cluster{Tasks: tasksOf(4), Nodes: nodesIn(1, 1, 0, 1, 1, 3)}
	for _, g := range []struct {
		what string
		mins [impl.MaxPools]int
		want int
	}{
		{"all of them", [impl.MaxPools]int{2, 3, 1, 2, 1}, 0},
		{"all but the first", [impl.MaxPools]int{1, 3, 1, 2, 1}, 1},
		{"the last two", [impl.MaxPools]int{0, 2, 0, 2, 9}, 3},
		{"the first and the last", [impl.MaxPools]int{2, 0, 0, 0, 1}, 0},
		{"the one that lacks least", [impl.MaxPools]int{0, 3, 9, 9, 9}, 1},
		{"the last", [impl.MaxPools]int{1, 2, 0, 1, 1}, 4},
		{"one without nodes", [impl.MaxPools]int{1, 2, 1, 1, 0}, 2},
	} {
		list := fivePools()
		for at := range list {
			// The last one would be chosen by its Gain, share and Prio.
			list[at].Min, list[at].Max, list[at].Prio, list[at].Shape.Cap = g.mins[at], 9, at, even(at)
		}
		wantGrowPicks(t, g.what, c, list, g.want)
	}
}

// Three pools, by what a node of them would bring. The value of the kind
// decides, and the first of equal ones.
func TestGrowPickOfEqualValues(t *testing.T) {
	for _, g := range []struct {
		what   string
		values []int
		want   int
	}{
		{"all equal", []int{2, 2, 2}, 0},
		{"the first and the last", []int{2, 1, 2}, 0},
		{"the last two", []int{1, 2, 2}, 1},
		{"the first two", []int{2, 2, 1}, 0},
		{"the last", []int{1, 1, 2}, 2},
		{"the one between", []int{1, 3, 2}, 1},
		{"the least", []int{1, 1, 1}, 0},
	} {
		c := impl.Cluster{Tasks: tasksOf(4, 4, 4, 4)}
		var byTasks, byShare, byPrio []impl.Pool
		for at, value := range g.values {
			// The Ids are 0, 2 and 4. What does not count prefers the last pool.
			byTasks = append(byTasks, withPrio(poolOf(2*at, 0, 9, 4*value), at))
			byShare = append(byShare, withPrio(poolOf(2*at, 0, 9, 8-value), at))
			byPrio = append(byPrio, withPrio(poolOf(2*at, 0, 9, 4+4*at), value-1))
		}
		wantInt(t, "GrowPick by tasks, "+g.what+",", impl.GrowPick(c, byTasks, impl.ByTasks), 2*g.want)
		wantInt(t, "GrowPick by shares, "+g.what+",", impl.GrowPick(c, byShare, impl.ByShare), 2*g.want)
		wantInt(t, "GrowPick by priorities, "+g.what+",", impl.GrowPick(c, byPrio, impl.ByPrio), 2*g.want)
	}
}

// The pool that is best by its value is not taken if it gains nothing, or is at
// its Max.
func TestGrowPickOfTheBestThatMayNot(t *testing.T) {
	c := impl.Cluster{Tasks: tasksOf(3), Nodes: nodesIn(1, 1, 0, 4)}
	good := withPrio(poolOf(2, 0, 2, 4), 1)
	for what, other := range map[string]impl.Pool{
		"too small":       withPrio(poolOf(0, 0, 9, 2), 9),
		"at its Max":      withPrio(poolOf(0, 1, 1, 3), 9),
		"above its Max":   withPrio(poolOf(0, 0, 0, 3), 9),
		"too small, last": withPrio(poolOf(4, 0, 9, 2), 9),
		"at its Max last": withPrio(poolOf(4, 1, 1, 3), 9),
	} {
		list := []impl.Pool{good, other}
		slices.SortFunc(list, func(a impl.Pool, b impl.Pool) int { return a.Id - b.Id })
		wantGrowPicks(t, "beside one that is "+what, c, list, 2)
		wantGrowPicks(t, "only one that is "+what, c, []impl.Pool{other}, -1)
	}
}

// The share is that of the added node alone, after everything was placed: a
// value of 0 is enough, and so is a Prio of 0.
func TestGrowPickByShare(t *testing.T) {
	c := impl.Cluster{Tasks: tasksOf(0, 0), Nodes: nil}
	wantGrowPicks(t, "tasks without needs", c, []impl.Pool{poolOf(3, 0, 1, 4), poolOf(4, 0, 1, 0)}, 3)
	// Both place the two tasks, of which the one that is already bound to node
	// 1 does not count.
	c = impl.Cluster{Tasks: tasksOf(4, 2, 1), Nodes: nodesIn(1, 4, 0), Binds: []impl.Bind{{Task: 1, Node: 1}}}
	list := []impl.Pool{poolOf(1, 0, 1, 6), poolOf(2, 0, 1, 4), poolOf(3, 0, 1, 5)}
	wantInt(t, "GrowPick by the share", impl.GrowPick(c, list, impl.ByShare), 2)
	// One field decides; the others are smaller.
	list[0].Shape.Cap = amounts(9, 3, 9)
	wantInt(t, "GrowPick by the greatest field", impl.GrowPick(c, list, impl.ByShare), 1)
}

func TestGrowPickOfOtherKinds(t *testing.T) {
	c := impl.Cluster{Tasks: tasksOf(4)}
	for _, kind := range otherKinds() {
		for _, list := range [][]impl.Pool{nil, {poolOf(1, 0, 1, 4)}, {poolOf(1, 1, 1, 4)}} {
			wantInt(t, fmt.Sprintf("GrowPick by %d", kind), impl.GrowPick(c, list, kind), -1)
			p := plan{c, list, kind, 1001, 1}
			wantSettled(t, "another kind", p, false)
			got, act := p.step()
			wantNoCluster(t, "PlanStep of "+p.text(), got)
			wantActs(t, p.text(), []impl.Act{act}, impl.Act{})
			got, acts := p.settle()
			wantNoCluster(t, "Settle of "+p.text(), got)
			wantActs(t, p.text(), acts)
		}
		// What is settled for the other kinds is not settled for this one.
		empty := plan{kind: kind}
		wantSettled(t, "another kind and nothing to do", empty, false)
	}
	for _, kind := range allKinds() {
		wantSettled(t, "the empty cluster", plan{kind: kind}, true)
	}
}

// used has nodes with the shares 500, 250, 250 and 1000, of which the last
// one's task fits nowhere else, and one without tasks in a pool of its own.
func used() impl.Cluster {
	return impl.Cluster{
		Tasks: tasksOf(2, 1, 1, 4),
		Nodes: append(nodesIn(3, 4, 0, 0, 0, 0), nodesIn(20, 2, 1)...),
		Binds: []impl.Bind{{Task: 1, Node: 3}, {Task: 2, Node: 4}, {Task: 3, Node: 5}, {Task: 4, Node: 6}},
	}
}

func TestShrinkPickLimits(t *testing.T) {
	c := used()
	wantInts(t, "Shares", impl.Shares(c), 500, 250, 250, 1000, 0)
	list := []impl.Pool{poolOf(0, 0, 9, 4)}
	for _, s := range []struct{ limit, want int }{
		{math.MinInt, 0}, {-1, 0}, {0, 0}, {1, 0}, {249, 0}, {250, 0}, {251, 4}, {500, 4}, {501, 4}, {1000, 4}, {1001, 4}, {math.MaxInt, 4},
	} {
		wantInt(t, fmt.Sprintf("ShrinkPick below %d", s.limit), impl.ShrinkPick(c, list, s.limit), s.want)
	}
	// A share of 0 is below 1, and not below 0.
	list = append(list, poolOf(1, 0, 1, 2))
	for _, s := range []struct{ limit, want int }{{math.MinInt, 0}, {-1, 0}, {0, 0}, {1, 20}, {1000, 20}, {1001, 20}, {math.MaxInt, 20}} {
		wantInt(t, fmt.Sprintf("ShrinkPick of an unused node below %d", s.limit), impl.ShrinkPick(c, list, s.limit), s.want)
	}
}

// A node that is fully used is below 1001 alone.
func TestShrinkPickOfAFullNode(t *testing.T) {
	c := impl.Cluster{Tasks: tasksOf(4), Nodes: append(nodesIn(3, 4, 0), nodesIn(4, 4, 1)...), Binds: []impl.Bind{{Task: 1, Node: 3}}}
	for limit, want := range map[int]int{-1: 0, 0: 0, 1: 0, 999: 0, 1000: 0, 1001: 3} {
		wantInt(t, fmt.Sprintf("ShrinkPick below %d", limit), impl.ShrinkPick(c, []impl.Pool{poolOf(0, 0, 9, 4)}, limit), want)
	}
}

func TestShrinkPickAtTheBoundsOfAPool(t *testing.T) {
	for _, s := range []struct {
		what            string
		nodes           int
		least, greatest int
		want            int
	}{
		{"Max is 0, no nodes", 0, 0, 0, 0},
		{"Max is 0, above it", 1, 0, 0, 7},
		{"Min is 0", 1, 0, 1, 7},
		{"below Min", 1, 2, 3, 0},
		{"at Min", 2, 2, 3, 0},
		{"at Min and Max", 2, 2, 2, 0},
		{"above Min", 3, 2, 3, 7},
		{"above Min and Max", 3, 2, 2, 7},
		{"MaxNodes, at Min", impl.MaxNodes, impl.MaxNodes, impl.MaxNodes, 0},
		{"MaxNodes, above Min", impl.MaxNodes, impl.MaxNodes - 1, impl.MaxNodes, 7},
		{"one below MaxNodes", impl.MaxNodes - 1, 0, impl.MaxNodes, 7},
		{"one below MaxNodes as Min", impl.MaxNodes - 1, impl.MaxNodes, impl.MaxNodes, 0},
	} {
		c := impl.Cluster{Nodes: nodesIn(7, 4, many(3, s.nodes)...)}
		wantInt(t, "ShrinkPick, "+s.what+",", impl.ShrinkPick(c, []impl.Pool{poolOf(3, s.least, s.greatest, 4)}, 1), s.want)
		wantInt(t, "ShrinkPick, another pool,", impl.ShrinkPick(c, []impl.Pool{poolOf(2, 0, 9, 4), poolOf(4, 0, 9, 4)}, 1), 0)
		wantInt(t, "ShrinkPick, no pools,", impl.ShrinkPick(c, nil, 1), 0)
	}
}

// Three nodes by how much of their capacity is used; they are the nodes 11, 12
// and 13, and node 20 is of a pool that is not in the list.
func TestShrinkPickOfEqualShares(t *testing.T) {
	for _, s := range []struct {
		what  string
		needs []int
		want  int
	}{
		{"all equal", []int{2, 2, 2}, 11},
		{"all unused", []int{0, 0, 0}, 11},
		{"the first and the last", []int{1, 2, 1}, 11},
		{"the last two", []int{3, 2, 2}, 12},
		{"the first two", []int{1, 1, 2}, 11},
		{"the last", []int{3, 2, 1}, 13},
		{"the one between", []int{3, 0, 1}, 12},
	} {
		c := impl.Cluster{Tasks: tasksOf(s.needs...), Nodes: append(nodesIn(11, 4, 0, 0, 0), nodesIn(20, 4, 1)...)}
		for at := range s.needs {
			c.Binds = append(c.Binds, impl.Bind{Task: at + 1, Node: 11 + at})
		}
		wantInt(t, "ShrinkPick, "+s.what+",", impl.ShrinkPick(c, []impl.Pool{poolOf(0, 0, 9, 4)}, 1001), s.want)
	}
}

// The task of the node with the smallest share has no other node.
func TestShrinkPickOfANodeThatCannotBeDrained(t *testing.T) {
	for _, s := range []struct {
		what   string
		change func(c *impl.Cluster)
		want   int
	}{
		{"as it is", func(c *impl.Cluster) {}, 4},
		{"a wanted label", func(c *impl.Cluster) {
			c.Tasks[1].Want = []impl.Lab{{Key: 2, Val: 2}}
			c.Nodes[1].Labs = c.Tasks[1].Want
		}, 5},
		{"a taint on all other nodes", func(c *impl.Cluster) {
			for _, at := range []int{0, 2, 3, 4} {
				c.Nodes[at].Taints = []int{1}
			}
			c.Tasks[0].Tols, c.Tasks[2].Tols, c.Tasks[3].Tols = []int{1}, []int{1}, []int{1}
		}, 5},
		{"no node that takes a task", func(c *impl.Cluster) {
			for at := range c.Nodes {
				c.Nodes[at].Cordon = true
			}
		}, 0},
		{"only one that takes a task, with room for one", func(c *impl.Cluster) {
			for _, at := range []int{1, 2, 3, 4} {
				c.Nodes[at].Cordon = true
			}
			c.Nodes[0].Cap = even(3)
		}, 4},
		{"only one that takes a task, without room", func(c *impl.Cluster) {
			for _, at := range []int{1, 2, 3, 4} {
				c.Nodes[at].Cordon = true
			}
			c.Nodes[0].Cap = even(2)
		}, 0},
	} {
		c := used()
		s.change(&c)
		wantInt(t, "ShrinkPick, "+s.what+",", impl.ShrinkPick(c, []impl.Pool{poolOf(0, 0, 9, 4)}, 1001), s.want)
		if s.want > 0 {
			if _, ok := impl.Drain(c, s.want); !ok {
				t.Errorf("%s: the node %d cannot be drained", s.what, s.want)
			}
		}
	}
}

// A node that is cordoned is one of its pool like the others.
func TestShrinkPickOfACordonedNode(t *testing.T) {
	c := impl.Cluster{Nodes: []impl.Node{nodeOf(3, even(4)), cordoned(nodeOf(4, even(4)))}}
	wantInt(t, "ShrinkPick of the first", impl.ShrinkPick(c, []impl.Pool{poolOf(0, 1, 2, 4)}, 1), 3)
	c.Nodes = c.Nodes[1:]
	wantInt(t, "ShrinkPick of the cordoned one", impl.ShrinkPick(c, []impl.Pool{poolOf(0, 0, 2, 4)}, 1), 4)
	wantInt(t, "ShrinkPick at Min", impl.ShrinkPick(c, []impl.Pool{poolOf(0, 1, 2, 4)}, 1), 0)
	wantGrowPicks(t, "at Min with a cordoned node", c, []impl.Pool{poolOf(0, 1, 2, 4)}, -1)
}

// growing would grow pool 2 for a task, and has a node 30 of pool 0 that is not
// used, which may shrink.
func growing() plan {
	c := impl.Cluster{Tasks: tasksOf(4), Nodes: nodesIn(29, 1, 1, 0)}
	return plan{c, []impl.Pool{poolOf(0, 0, 3, 1), poolOf(2, 0, 3, 4)}, impl.ByTasks, 1, 31}
}

func TestPlanStepNext(t *testing.T) {
	p := growing()
	shrink := impl.Act{Kind: impl.ActShrink, Pool: 0, Node: 30}
	for _, s := range []struct {
		next  int
		grows bool
	}{
		{math.MinInt, false}, {-1, false}, {0, false}, {1, false}, {28, false}, {29, false}, {30, false},
		{31, true}, {32, true}, {impl.MaxId - 1, true}, {impl.MaxId, true}, {impl.MaxId + 1, false}, {math.MaxInt, false},
	} {
		p.next = s.next
		want := p.c
		act := shrink
		if s.grows {
			act = impl.Act{Kind: impl.ActGrow, Pool: 2, Node: s.next}
			want.Nodes = append(slices.Clone(want.Nodes), nodesIn(s.next, 4, 2)...)
		} else {
			want.Nodes = want.Nodes[:1]
		}
		got, did := p.step()
		wantActs(t, p.text(), []impl.Act{did}, act)
		wantCluster(t, "PlanStep of "+p.text(), got, impl.DoFine, want)
	}
}

// Without a node to remove nothing is done, with an Id that may not be added.
func TestPlanStepWithoutAnId(t *testing.T) {
	for _, first := range []int{1, 98, 99} {
		c := impl.Cluster{Tasks: tasksOf(4), Nodes: nodesIn(first, 1, 1)}
		for _, next := range []int{math.MinInt, -1, 0, 1, first, first + 1, impl.MaxId, impl.MaxId + 1, math.MaxInt} {
			p := plan{c, []impl.Pool{poolOf(2, 0, 3, 4)}, impl.ByPrio, 1001, next}
			want, act := c, impl.Act{}
			if next > first && next <= impl.MaxId {
				want.Nodes = append(slices.Clone(c.Nodes), nodesIn(next, 4, 2)...)
				act = impl.Act{Kind: impl.ActGrow, Pool: 2, Node: next}
			}
			got, did := p.step()
			wantActs(t, p.text(), []impl.Act{did}, act)
			wantCluster(t, "PlanStep of "+p.text(), got, impl.DoFine, want)
		}
	}
	// Without nodes every Id in 1..MaxId is greater than all of them.
	for _, next := range idsAtTheBounds() {
		p := plan{impl.Cluster{}, []impl.Pool{poolOf(2, 1, 3, 4)}, impl.ByPrio, 1001, next}
		_, did := p.step()
		if isId(next) != (did == impl.Act{Kind: impl.ActGrow, Pool: 2, Node: next}) || !isId(next) && did != (impl.Act{}) {
			t.Errorf("the action of %s is %v", p.text(), did)
		}
	}
}

// What is placed first decides what is then to be done.
func TestPlanStepPlacesFirst(t *testing.T) {
	list := []impl.Pool{poolOf(0, 0, 3, 4)}
	for _, s := range []struct {
		what  string
		c     impl.Cluster
		want  impl.Act
		binds []impl.Bind
	}{
		{"nothing", impl.Cluster{}, impl.Act{}, nil},
		{"a task that fits", impl.Cluster{Tasks: tasksOf(4), Nodes: nodesIn(8, 4, 0)}, impl.Act{}, []impl.Bind{{Task: 1, Node: 8}}},
		{"a task that fits and one that does not", impl.Cluster{Tasks: tasksOf(4, 3), Nodes: nodesIn(8, 4, 0)}, impl.Act{Kind: impl.ActGrow, Node: 9}, []impl.Bind{{Task: 1, Node: 8}}},
		{"a task for one of two nodes", impl.Cluster{Tasks: tasksOf(4), Nodes: nodesIn(7, 4, 0, 0)}, impl.Act{Kind: impl.ActShrink, Node: 8}, []impl.Bind{{Task: 1, Node: 7}}},
		{"tasks for both nodes", impl.Cluster{Tasks: tasksOf(4, 4), Nodes: nodesIn(7, 4, 0, 0)}, impl.Act{}, []impl.Bind{{Task: 1, Node: 7}, {Task: 2, Node: 8}}},
		{"no task", impl.Cluster{Nodes: nodesIn(7, 4, 0, 0)}, impl.Act{Kind: impl.ActShrink, Node: 7}, nil},
		{"a task that fits nowhere", impl.Cluster{Tasks: tasksOf(5), Nodes: nodesIn(8, 4, 1)}, impl.Act{}, nil},
	} {
		p := plan{s.c, list, impl.ByShare, 1000, 9}
		got, act := p.step()
		wantActs(t, s.what, []impl.Act{act}, s.want)
		wantBinds(t, "what is bound, "+s.what+",", got.Binds, s.binds...)
		// With a limit that is never reached no node is removed.
		p.limit = 0
		_, act = p.step()
		if act.Kind == impl.ActShrink || s.want.Kind == impl.ActGrow && act != s.want {
			t.Errorf("the action of %s with the limit 0 is %v", s.what, act)
		}
	}
}

// The tasks of a node that is removed move, those of the others stay, and the
// action has the pool of the node.
func TestPlanStepMovesTheTasks(t *testing.T) {
	c := impl.Cluster{
		Tasks: tasksOf(1, 1, 3),
		Nodes: nodesIn(3, 4, 4, 2, 4),
		Binds: []impl.Bind{{Task: 1, Node: 3}, {Task: 2, Node: 4}, {Task: 3, Node: 5}},
	}
	p := plan{c, []impl.Pool{poolOf(2, 0, 9, 4), poolOf(4, 2, 9, 4)}, impl.ByTasks, 251, 50}
	got, act := p.step()
	wantActs(t, "one that may shrink", []impl.Act{act}, impl.Act{Kind: impl.ActShrink, Pool: 2, Node: 4})
	want := c
	want.Nodes = []impl.Node{c.Nodes[0], c.Nodes[2]}
	want.Binds = []impl.Bind{{Task: 1, Node: 3}, {Task: 2, Node: 5}, {Task: 3, Node: 5}}
	wantCluster(t, "PlanStep of "+p.text(), got, impl.DoFine, want)
	// Nothing is left that may shrink.
	got, acts := p.settle()
	wantActs(t, p.text(), acts, act)
	wantCluster(t, "Settle of "+p.text(), got, impl.DoFine, want)
}

// A cluster that is full cannot grow, but it can shrink, and then grow.
func TestPlansOfAFullCluster(t *testing.T) {
	c := impl.Cluster{Tasks: tasksOf(4), Nodes: nodesIn(1, 1, many(0, impl.MaxNodes)...)}
	p := plan{c, []impl.Pool{poolOf(0, impl.MaxNodes-1, impl.MaxNodes, 1), poolOf(1, 0, 1, 4)}, impl.ByTasks, 1, 40}
	got, acts := p.settle()
	wantActs(t, "a full cluster", acts, impl.Act{Kind: impl.ActShrink, Node: 1}, impl.Act{Kind: impl.ActGrow, Pool: 1, Node: 40})
	wantBinds(t, "what is bound then", got.Binds, impl.Bind{Task: 1, Node: 40})
	wantInt(t, "the number of nodes", len(got.Nodes), impl.MaxNodes)
	// A pool that is at its Min keeps the cluster full.
	p.list[0].Min = impl.MaxNodes
	got, acts = p.settle()
	wantActs(t, "a full cluster that may not shrink", acts)
	wantCluster(t, "Settle of a full cluster", got, impl.DoFine, c)
	wantSettled(t, "a full cluster", p, true)
	// One place is left.
	p.c.Nodes = p.c.Nodes[1:]
	p.list[0].Min = impl.MaxNodes - 1
	_, acts = p.settle()
	wantActs(t, "an almost full cluster", acts, impl.Act{Kind: impl.ActGrow, Pool: 1, Node: 40})
}

func TestSettleWhenTheIdsRunOut(t *testing.T) {
	for _, s := range []struct{ next, grows int }{{96, 3}, {97, 3}, {98, 2}, {99, 1}, {100, 0}, {math.MaxInt, 0}, {0, 0}, {-1, 0}, {math.MinInt, 0}, {1, 3}} {
		p := plan{impl.Cluster{Tasks: tasksOf(3, 3, 3)}, []impl.Pool{poolOf(3, 0, 9, 4)}, impl.ByPrio, 500, s.next}
		var want []impl.Act
		for at := range s.grows {
			want = append(want, impl.Act{Kind: impl.ActGrow, Pool: 3, Node: s.next + at})
		}
		got, acts := p.settle()
		wantActs(t, p.text(), acts, want...)
		wantInt(t, "the number of bound tasks", len(got.Binds), s.grows)
		p.c = got
		wantSettled(t, "afterwards", p, s.grows == 3)
	}
}

// The Id may become the greatest when nodes were removed.
func TestSettleWithAnIdThatIsNotTheGreatest(t *testing.T) {
	grow := impl.Act{Kind: impl.ActGrow, Pool: 2, Node: 30}
	shrink := impl.Act{Kind: impl.ActShrink, Node: 30}
	p := growing()
	for next, want := range map[int][]impl.Act{
		31: {{Kind: impl.ActGrow, Pool: 2, Node: 31}, shrink},
		30: {shrink, grow},
		29: {shrink},
		1:  {shrink},
	} {
		p.next = next
		got, acts := p.settle()
		wantActs(t, p.text(), acts, want...)
		end := p
		end.c = got
		wantSettled(t, "afterwards", end, next >= 30)
	}
}

// Pools that are below Min get their nodes one after the other, the first pool
// first, and these are not removed again.
func TestSettleUpToMin(t *testing.T) {
	list := []impl.Pool{poolOf(1, 2, 2, 4), poolOf(2, 0, 0, 4), poolOf(4, 1, impl.MaxNodes, 4)}
	for _, kind := range allKinds() {
		p := plan{impl.Cluster{Nodes: nodesIn(9, 4, 1, 0)}, list, kind, 1001, 11}
		got, acts := p.settle()
		wantActs(t, p.text(), acts, impl.Act{Kind: impl.ActGrow, Pool: 1, Node: 11}, impl.Act{Kind: impl.ActGrow, Pool: 4, Node: 12})
		for pool, want := range []int{1, 2, 0, 0, 1} {
			wantInt(t, fmt.Sprintf("the number of nodes of the pool %d", pool), impl.PoolCount(got, pool), want)
		}
	}
	// More than there may be in all: the last pool gets what is left.
	list = []impl.Pool{poolOf(0, 11, 11, 4), poolOf(1, 11, 20, 4)}
	p := plan{impl.Cluster{}, list, impl.ByTasks, 1001, 1}
	got, acts := p.settle()
	wantInt(t, "the number of actions", len(acts), impl.MaxNodes)
	wantInt(t, "the nodes of the last pool", impl.PoolCount(got, 1), impl.MaxNodes-11)
	p.c = got
	wantSettled(t, "a full cluster below Min", p, true)
}

// Each part on its own is enough not to be settled.
func TestSettledParts(t *testing.T) {
	list := []impl.Pool{poolOf(0, 1, 2, 4)}
	for _, s := range []struct {
		what string
		c    impl.Cluster
		want bool
	}{
		{"at Min", impl.Cluster{Nodes: nodesIn(3, 4, 0)}, true},
		{"a task that cannot be placed", impl.Cluster{Tasks: tasksOf(5), Nodes: nodesIn(3, 4, 0)}, true},
		{"a task that can be placed", impl.Cluster{Tasks: tasksOf(1), Nodes: nodesIn(3, 4, 0)}, false},
		{"a pool below Min", impl.Cluster{}, false},
		{"a pool that may grow", impl.Cluster{Tasks: tasksOf(4), Nodes: nodesIn(3, 2, 0)}, false},
		{"a pool that may not grow", impl.Cluster{Tasks: tasksOf(4, 4, 4), Nodes: nodesIn(3, 4, 0, 0), Binds: []impl.Bind{{Task: 1, Node: 3}, {Task: 2, Node: 4}}}, true},
		{"a node that may go", impl.Cluster{Nodes: nodesIn(3, 4, 0, 0)}, false},
		{"a node that may go in no pool of the list", impl.Cluster{Nodes: nodesIn(3, 4, 0, 1)}, true},
	} {
		for _, kind := range allKinds() {
			wantSettled(t, s.what, plan{s.c, list, kind, 300, 0}, s.want)
		}
	}
	// The limit decides whether a node may go.
	c := impl.Cluster{Nodes: nodesIn(3, 4, 0, 0)}
	for limit, want := range map[int]bool{math.MinInt: true, -1: true, 0: true, 1: false, 1001: false} {
		wantSettled(t, "the limit", plan{c, list, impl.ByTasks, limit, 0}, want)
	}
}

// planned is all that the functions of the chapter return, as one value.
type planned struct {
	Cluster impl.Cluster
	Acts    []impl.Act
	Act     impl.Act
	Node    impl.Node
	Number  int
	Ok      bool
}

// planning is a call of one of the functions with a plan.
type planning struct {
	name string
	do   func(p plan) planned
	none planned // what it returns for a cluster or a list that is not valid
}

// first is the pool that functions get that take one.
func (p plan) first() impl.Pool { return append(slices.Clone(p.list), impl.Pool{})[0] }

func plannings() []planning {
	return []planning{
		{"Gain", func(p plan) planned { return planned{Number: impl.Gain(p.c, p.first())} }, planned{Number: -1}},
		{"GrowPick", func(p plan) planned { return planned{Number: impl.GrowPick(p.c, p.list, p.kind)} }, planned{Number: -1}},
		{"ShrinkPick", func(p plan) planned { return planned{Number: impl.ShrinkPick(p.c, p.list, p.limit)} }, planned{}},
		{"PlanStep", func(p plan) planned {
			c, act := p.step()
			return planned{Cluster: c, Act: act}
		}, planned{}},
		{"Settle", func(p plan) planned {
			c, acts := p.settle()
			return planned{Cluster: c, Acts: acts}
		}, planned{}},
		{"Settled", func(p plan) planned { return planned{Ok: p.settled()} }, planned{}},
		{"PoolCount", func(p plan) planned { return planned{Number: impl.PoolCount(p.c, p.first().Id)} }, planned{Number: -1}},
		{"PoolOk", func(p plan) planned { return planned{Ok: impl.PoolOk(p.first())} }, planned{}},
		{"PoolsOk", func(p plan) planned { return planned{Ok: impl.PoolsOk(p.list)} }, planned{}},
		{"PoolNode", func(p plan) planned {
			n, ok := impl.PoolNode(p.first(), p.next)
			return planned{Node: n, Ok: ok}
		}, planned{}},
	}
}

// readsCluster and readsList tell what a function depends on.
func (p planning) readsCluster() bool {
	return !slices.Contains([]string{"PoolOk", "PoolsOk", "PoolNode"}, p.name)
}

func (p planning) readsList() bool {
	return slices.Contains([]string{"GrowPick", "ShrinkPick", "PlanStep", "Settle", "Settled", "PoolsOk"}, p.name)
}

func wantNone(t *testing.T, what string, f planning, p plan) {
	t.Helper()
	if got := f.do(p); fmt.Sprintf("%+v", got) != fmt.Sprintf("%+v", f.none) {
		t.Errorf("%s with %s is %+v, want %+v", f.name, what, got, f.none)
	}
}

// The lists and the pool are valid, so that the cluster alone is the reason, or
// the reverse. With both valid every function has something to return.
func TestPlansOfInvalid(t *testing.T) {
	growing, shrinking := growing(), plan{used(), []impl.Pool{poolOf(0, 0, 9, 4)}, impl.ByShare, 1001, 50}
	shrinking.c.Tasks = append(shrinking.c.Tasks, taskOf(9, 0, even(4)))
	for _, p := range []plan{growing, shrinking} {
		for _, f := range plannings() {
			got := fmt.Sprintf("%+v", f.do(p))
			if f.name != "Settled" && got == fmt.Sprintf("%+v", f.none) {
				t.Errorf("%s of %s is %s", f.name, p.text(), got)
			}
		}
	}
	for _, f := range plannings() {
		for _, clusters := range []map[string]impl.Cluster{brokenClusters(), brokenMarked()} {
			for what, c := range clusters {
				// The last one would grow in an empty cluster.
				for _, p := range []plan{growing, shrinking, {kind: impl.ByTasks}, {list: []impl.Pool{poolOf(2, 1, 1, 4)}, kind: impl.ByPrio, limit: 1001, next: 98}} {
					p.c = c
					if f.readsCluster() {
						wantNone(t, what, f, p)
					}
				}
			}
		}
		for what, list := range invalidPoolLists() {
			for _, p := range []plan{growing, shrinking, {kind: impl.ByTasks}, {c: marked(), kind: impl.ByPrio, limit: 1001, next: 98}} {
				p.list = list
				if f.readsList() {
					wantNone(t, what, f, p)
				}
			}
		}
	}
}

// Gain asks for the pool that it is given alone.
func TestGainOfInvalidPools(t *testing.T) {
	c := impl.Cluster{Tasks: []impl.Task{taskOf(1, 0, amounts(0, 1, 1))}}
	c.Tasks[0].Want, c.Tasks[0].Tols = goodPool().Shape.Labs, goodPool().Shape.Taints
	wantInt(t, "Gain of a valid pool", impl.Gain(c, goodPool()), 1)
	for _, p := range invalidPools(goodPool()) {
		wantInt(t, fmt.Sprintf("Gain of %+v", p), impl.Gain(c, p), -1)
		wantInt(t, fmt.Sprintf("Gain of %+v without tasks", p), impl.Gain(impl.Cluster{}, p), -1)
	}
}

func TestPlansWithNilAndEmptyLists(t *testing.T) {
	shape := impl.Node{Id: 1, Cap: even(4), Labs: []impl.Lab{}, Taints: []int{}}
	empty := impl.Cluster{
		Tasks: []impl.Task{{Id: 1, Need: even(4), Want: []impl.Lab{}, Tols: []int{}}},
		Nodes: []impl.Node{{Id: 2, Pool: 3, Labs: []impl.Lab{}, Taints: []int{}}},
		Binds: []impl.Bind{},
	}
	none := impl.Cluster{Tasks: tasksOf(4), Nodes: []impl.Node{{Id: 2, Pool: 3}}}
	nothing := impl.Cluster{Tasks: []impl.Task{}, Nodes: []impl.Node{}, Binds: []impl.Bind{}}
	for _, f := range plannings() {
		for _, pair := range [][2]plan{
			{{c: empty, list: []impl.Pool{{Max: 2, Shape: shape}}}, {c: none, list: []impl.Pool{poolOf(0, 0, 2, 4)}}},
			{{c: nothing, list: []impl.Pool{{Min: 1, Max: 2, Shape: shape}}}, {list: []impl.Pool{poolOf(0, 1, 2, 4)}}},
			{{c: nothing, list: []impl.Pool{}}, {}},
			{{c: empty, list: []impl.Pool{}}, {c: none}},
		} {
			for at := range pair {
				pair[at].kind, pair[at].limit, pair[at].next = impl.ByTasks, 1001, 3
			}
			got, want := fmt.Sprintf("%+v", f.do(pair[0])), fmt.Sprintf("%+v", f.do(pair[1]))
			if got != want {
				t.Errorf("%s is %s with empty lists and %s with nil", f.name, got, want)
			}
		}
	}
	// Without pools there is nothing to do but to place tasks.
	p := plan{c: impl.Cluster{Tasks: tasksOf(1), Nodes: nodesIn(4, 2, 0)}, kind: impl.ByTasks, limit: 1001, next: 5}
	wantSettled(t, "without pools", p, false)
	got, acts := p.settle()
	wantActs(t, "no pools", acts)
	wantBinds(t, "what is bound without pools", got.Binds, impl.Bind{Task: 1, Node: 4})
	p.c = got
	wantSettled(t, "without pools, afterwards", p, true)
}

// spaciousPools returns a copy of a list in which every list has spare capacity.
func spaciousPools(list []impl.Pool) []impl.Pool {
	var out []impl.Pool
	for _, p := range append(slices.Clone(list), poolOf(4, 1, 9, 4), impl.Pool{Id: -1}) {
		p.Shape = spaciousNode(p.Shape)
		out = append(out, p)
	}
	return out[:len(list)]
}

// markedPlan has lists in all tasks, nodes and pools. It places a task, grows two
// pools and removes the node of the third.
func markedPlan() plan {
	c := marked()
	c.Nodes = append(c.Nodes, spaciousNode(c.Nodes[1]))
	c.Nodes[2].Id, c.Nodes[2].Pool, c.Nodes[2].Cap = 7, 4, even(1)
	list := []impl.Pool{poolOf(1, 2, 5, 3), poolOf(2, 0, 5, 4), poolOf(4, 0, 5, 1)}
	for at := range list {
		list[at].Shape.Labs, list[at].Shape.Taints = slices.Clone(c.Nodes[0].Labs), slices.Clone(c.Nodes[0].Taints)
	}
	return plan{c, list, impl.ByTasks, 1000, 9}
}

func TestMarkedPlan(t *testing.T) {
	got, acts := markedPlan().settle()
	wantActs(t, "the marked plan", acts[:2], impl.Act{Kind: impl.ActGrow, Pool: 1, Node: 9}, impl.Act{Kind: impl.ActGrow, Pool: 2, Node: 10})
	wantActs(t, "the marked plan afterwards", acts[2:], impl.Act{Kind: impl.ActShrink, Pool: 4, Node: 7})
	wantInt(t, "the number of bound tasks", len(got.Binds), 4)
}

func TestPlansChangeNoArgumentAndShareNoMemory(t *testing.T) {
	all := append(plans(t)[:250], growing(), markedPlan(), plan{}, plan{kind: impl.ByTasks})
	for _, c := range brokenMarked() {
		p := markedPlan()
		p.c = c
		all = append(all, p)
	}
	for _, list := range invalidPoolLists() {
		p := markedPlan()
		p.list = list
		all = append(all, p)
	}
	for _, p := range all {
		given := p
		given.c, given.list = spacious(p.c), spaciousPools(p.list)
		before := wholeText(reflect.ValueOf(given.c)) + wholeText(reflect.ValueOf(given.list))
		for _, f := range plannings() {
			got, again := f.do(given), f.do(given)
			if now := wholeText(reflect.ValueOf(given.c)) + wholeText(reflect.ValueOf(given.list)); now != before {
				t.Fatalf("%s changed %s to %s", f.name, before, now)
			}
			wantOwnMemory(t, f.name, got, given.c, given.list, again)
			// The same without spare capacity: nothing behind a list is read.
			if want := f.do(p); fmt.Sprintf("%+v", got) != fmt.Sprintf("%+v", want) {
				t.Fatalf("%s of %s is %+v with more behind the lists, and %+v without", f.name, p.text(), got, want)
			}
		}
		if t.Failed() {
			return
		}
	}
}

// Several nodes of one pool have lists of their own.
func TestNodesOfAPoolShareNoMemory(t *testing.T) {
	p := plan{list: []impl.Pool{poolOf(0, 4, 4, 4)}, kind: impl.ByTasks, next: 1}
	p.list[0].Shape.Labs, p.list[0].Shape.Taints = labsOf([]int{1, 2}), []int{3, 4}
	got, acts := p.settle()
	wantInt(t, "the number of actions", len(acts), 4)
	wantOwnMemory(t, "Settle", got, p.list)
	for _, n := range got.Nodes {
		want, _ := impl.PoolNode(p.list[0], n.Id)
		if !reflect.DeepEqual(n, want) {
			t.Errorf("the node is %+v, want %+v", n, want)
		}
	}
}
