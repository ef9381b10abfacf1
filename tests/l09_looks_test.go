package tests

import (
	"fmt"
	"math"
	"reflect"
	"slices"
	"testing"

	"loop.example/g00718/impl"
)

func moveOf(task int, from int, to int) impl.Move {
	return impl.Move{Task: task, From: from, To: to}
}

func shareOf(val int, nodes int, tasks int) impl.Share {
	return impl.Share{Val: val, Nodes: nodes, Tasks: tasks}
}

// reversed exchanges From and To of every move.
func reversed(list []impl.Move) []impl.Move {
	var out []impl.Move
	for _, m := range list {
		out = append(out, moveOf(m.Task, m.To, m.From))
	}
	return out
}

func wantMoves(t *testing.T, what string, a impl.Cluster, b impl.Cluster, want ...impl.Move) {
	t.Helper()
	got, ok := impl.MovesOf(a, b)
	if !ok || !slices.Equal(got, want) {
		t.Errorf("MovesOf, %s, is %v, %v, want %v", what, got, ok, want)
	}
}

func wantNoMoves(t *testing.T, what string, a impl.Cluster, b impl.Cluster) {
	t.Helper()
	if got, ok := impl.MovesOf(a, b); ok || got != nil {
		t.Errorf("MovesOf, %s, is %v, %v, want nil and false", what, got, ok)
	}
}

func wantMoved(t *testing.T, what string, a impl.Cluster, list []impl.Move, want ...impl.Bind) {
	t.Helper()
	after := a
	after.Binds = want
	got, ok := impl.MovesDo(a, list)
	if !ok {
		t.Errorf("MovesDo, %s, is false", what)
		return
	}
	wantCluster(t, "MovesDo, "+what, got, impl.DoFine, after)
}

func wantNotMoved(t *testing.T, what string, a impl.Cluster, list []impl.Move) {
	t.Helper()
	got, ok := impl.MovesDo(a, list)
	if ok {
		t.Errorf("MovesDo of %v, %s, is true", list, what)
	}
	wantNoCluster(t, "MovesDo, "+what, got)
}

func wantSpread(t *testing.T, what string, c impl.Cluster, key int, skew int, want ...impl.Share) {
	t.Helper()
	if got := impl.SpreadOf(c, key); !slices.Equal(got, want) {
		t.Errorf("SpreadOf(%d), %s, is %v, want %v", key, what, got, want)
	}
	wantInt(t, fmt.Sprintf("Skew(%d), %s,", key, what), impl.Skew(c, key), skew)
}

// The example of the chapter.
func TestLooksExample(t *testing.T) {
	a := impl.Cluster{Tasks: tasksUpTo(4), Nodes: nodesUpTo(2), Binds: []impl.Bind{{Task: 2, Node: 1}, {Task: 4, Node: 1}}}
	b := a
	b.Binds = []impl.Bind{{Task: 4, Node: 2}}
	list := []impl.Move{moveOf(2, 1, 0), moveOf(4, 1, 2)}
	wantMoves(t, "the example", a, b, list...)
	wantMoved(t, "the example", a, list, b.Binds...)
	wantMoved(t, "the example reversed", b, reversed(list), a.Binds...)
}

// moving has the nodes 3 and 6 with room for 4, of which 3 is full with two
// tasks and 6 with one, node 9 with a taint that the task 11 alone tolerates,
// and node 12, which is cordoned. The tasks are in no order of their Ids.
func moving() impl.Cluster {
	c := impl.Cluster{
		Tasks: []impl.Task{taskOf(8, 0, even(2)), taskOf(2, 1, even(2)), taskOf(5, 0, even(4)), taskOf(11, 2, even(1)), taskOf(4, 0, even(4))},
		Nodes: nodesIn(3, 4, 0),
		Binds: []impl.Bind{{Task: 2, Node: 3}, {Task: 4, Node: 6}, {Task: 8, Node: 3}},
	}
	c.Nodes = append(c.Nodes, nodeOf(6, even(4)), nodeOf(9, even(4)), cordoned(nodeOf(12, even(4))))
	c.Nodes[2].Taints, c.Tasks[3].Tols = []int{7}, []int{7}
	return c
}

func bindsOf(pairs ...int) []impl.Bind {
	var out []impl.Bind
	for pair := range slices.Chunk(pairs, 2) {
		out = append(out, impl.Bind{Task: pair[0], Node: pair[1]})
	}
	return out
}

func TestMovesOf(t *testing.T) {
	for _, s := range []struct {
		what string
		a, b []impl.Bind
		want []impl.Move
	}{
		{"nothing bound", nil, nil, nil},
		{"the same bindings", bindsOf(2, 3, 4, 6), bindsOf(2, 3, 4, 6), nil},
		{"one bound in the second", nil, bindsOf(8, 3), []impl.Move{moveOf(8, 0, 3)}},
		{"one bound in the first", bindsOf(8, 3), nil, []impl.Move{moveOf(8, 3, 0)}},
		{"one on another node", bindsOf(8, 3), bindsOf(8, 12), []impl.Move{moveOf(8, 3, 12)}},
		{"one of three", bindsOf(2, 3, 4, 6, 8, 3), bindsOf(2, 3, 4, 12, 8, 3), []impl.Move{moveOf(4, 6, 12)}},
		{"all, which are in another order in Tasks", bindsOf(2, 3, 4, 6, 8, 3), bindsOf(2, 6, 5, 3, 8, 6, 11, 9),
			[]impl.Move{moveOf(2, 3, 6), moveOf(4, 6, 0), moveOf(5, 0, 3), moveOf(8, 3, 6), moveOf(11, 0, 9)}},
		{"two that change places", bindsOf(4, 3, 5, 6), bindsOf(4, 6, 5, 3), []impl.Move{moveOf(4, 3, 6), moveOf(5, 6, 3)}},
	} {
		a, b := moving(), moving()
		a.Binds, b.Binds = s.a, s.b
		wantMoves(t, s.what, a, b, s.want...)
		wantMoves(t, s.what+", in reverse", b, a, reversed(s.want)...)
		wantMoved(t, s.what, a, s.want, s.b...)
		wantMoved(t, s.what+", in reverse", b, reversed(s.want), s.a...)
		// The order of Tasks is one of each cluster.
		slices.Reverse(b.Tasks)
		wantMoves(t, s.what+", with another order", a, b, s.want...)
	}
}

// What is in one of the clusters alone is not compared, and neither is what a
// task or a node is like.
func TestMovesOfDifferentClusters(t *testing.T) {
	a := moving()
	for _, s := range []struct {
		what   string
		change func(c *impl.Cluster)
		want   []impl.Move
	}{
		{"a bound task missing", func(c *impl.Cluster) { *c, _ = impl.TaskDrop(*c, 4) }, nil},
		{"an unbound task missing", func(c *impl.Cluster) { *c, _ = impl.TaskDrop(*c, 5) }, nil},
		{"a task missing and another moved", func(c *impl.Cluster) {
			*c, _ = impl.TaskDrop(*c, 2)
			c.Binds = bindsOf(4, 6, 5, 3)
		}, []impl.Move{moveOf(5, 0, 3), moveOf(8, 3, 0)}},
		{"all tasks missing", func(c *impl.Cluster) { c.Tasks, c.Binds = nil, nil }, nil},
		{"all others", func(c *impl.Cluster) { c.Tasks, c.Binds = tasksUpTo(1), bindsOf(1, 3) }, nil},
		{"a node missing", func(c *impl.Cluster) { *c, _ = impl.NodeDrop(*c, 3) }, []impl.Move{moveOf(2, 3, 0), moveOf(8, 3, 0)}},
		{"no nodes", func(c *impl.Cluster) { c.Nodes, c.Binds = nil, nil }, []impl.Move{moveOf(2, 3, 0), moveOf(4, 6, 0), moveOf(8, 3, 0)}},
		{"other nodes", func(c *impl.Cluster) {
			c.Nodes = nodesUpTo(1)
			c.Binds = bindsOf(8, 1)
		}, []impl.Move{moveOf(2, 3, 0), moveOf(4, 6, 0), moveOf(8, 3, 1)}},
		{"another task with the Id", func(c *impl.Cluster) {
			c.Tasks[0] = taskOf(8, 9, even(1))
			c.Binds = bindsOf(2, 3, 4, 6, 8, 12)
		}, []impl.Move{moveOf(8, 3, 12)}},
		{"another node with the Id", func(c *impl.Cluster) { c.Nodes[0] = impl.Node{Id: 3, Pool: 4, Cap: even(9)} }, nil},
		{"another flag", func(c *impl.Cluster) { c.Nodes[0].Cordon = true }, nil},
	} {
		b := moving()
		s.change(&b)
		wantMoves(t, s.what, a, b, s.want...)
		wantMoves(t, s.what+", in reverse", b, a, reversed(s.want)...)
	}
	for _, pair := range [][2]impl.Cluster{{{}, {}}, {{}, a}, {{Nodes: nodesUpTo(1)}, {Nodes: nodesUpTo(3)}}, {a, a}, {fullCluster(), fullCluster()}} {
		wantMoves(t, "nothing to be compared", pair[0], pair[1])
		wantMoves(t, "nothing to be compared", pair[1], pair[0])
	}
	// As many moves as there may be, and the least and the greatest Id.
	full, unbound := fullCluster(), fullCluster()
	unbound.Binds = nil
	list, _ := impl.MovesOf(full, unbound)
	wantInt(t, "the number of moves", len(list), impl.MaxTasks)
	wantMoved(t, "all unbound", full, list)
	ends := impl.Cluster{Tasks: []impl.Task{{Id: impl.MaxId}, {Id: 1}}, Nodes: []impl.Node{{Id: 1}, {Id: impl.MaxId}}, Binds: bindsOf(1, impl.MaxId)}
	other := ends
	other.Binds = bindsOf(1, 1, impl.MaxId, impl.MaxId)
	wantMoves(t, "Ids at their bounds", ends, other, moveOf(1, impl.MaxId, 1), moveOf(impl.MaxId, 0, impl.MaxId))
}

// One side is not valid, the other one is empty, the same, or another one.
func TestMovesOfInvalid(t *testing.T) {
	for _, clusters := range []map[string]impl.Cluster{brokenClusters(), brokenMarked()} {
		for what, c := range clusters {
			for _, other := range []impl.Cluster{{}, sample(), marked(), moving(), c} {
				wantNoMoves(t, what+" in the first", c, other)
				wantNoMoves(t, what+" in the second", other, c)
			}
		}
	}
}

func TestMovesDo(t *testing.T) {
	for _, s := range []struct {
		what string
		list []impl.Move
		want []impl.Bind
	}{
		{"no moves", nil, bindsOf(2, 3, 4, 6, 8, 3)},
		{"an empty list", []impl.Move{}, bindsOf(2, 3, 4, 6, 8, 3)},
		{"a bound task that does not move", []impl.Move{moveOf(8, 3, 3)}, bindsOf(2, 3, 4, 6, 8, 3)},
		{"an unbound task that does not move", []impl.Move{moveOf(5, 0, 0)}, bindsOf(2, 3, 4, 6, 8, 3)},
		{"no task moves", []impl.Move{moveOf(8, 3, 3), moveOf(5, 0, 0), moveOf(2, 3, 3), moveOf(11, 0, 0), moveOf(4, 6, 6)}, bindsOf(2, 3, 4, 6, 8, 3)},
		{"one that moves and one that does not", []impl.Move{moveOf(4, 6, 6), moveOf(8, 3, 0)}, bindsOf(2, 3, 4, 6)},
		{"one to 0", []impl.Move{moveOf(8, 3, 0)}, bindsOf(2, 3, 4, 6)},
		{"all to 0", []impl.Move{moveOf(8, 3, 0), moveOf(2, 3, 0), moveOf(4, 6, 0)}, nil},
		{"one that was not bound", []impl.Move{moveOf(11, 0, 9)}, bindsOf(2, 3, 4, 6, 8, 3, 11, 9)},
		{"to a cordoned node", []impl.Move{moveOf(5, 0, 12)}, bindsOf(2, 3, 4, 6, 5, 12, 8, 3)},
		{"to a node that is left before", []impl.Move{moveOf(4, 6, 0), moveOf(5, 0, 6)}, bindsOf(2, 3, 5, 6, 8, 3)},
		{"to a node that is left later", []impl.Move{moveOf(5, 0, 6), moveOf(4, 6, 0)}, bindsOf(2, 3, 5, 6, 8, 3)},
		{"to a node that is left by the last of several", []impl.Move{moveOf(5, 0, 3), moveOf(2, 3, 12), moveOf(4, 6, 6), moveOf(8, 3, 12)}, bindsOf(2, 12, 4, 6, 5, 3, 8, 12)},
		{"places that are exchanged", []impl.Move{moveOf(4, 6, 3), moveOf(8, 3, 6), moveOf(2, 3, 6)}, bindsOf(2, 6, 4, 3, 8, 6)},
		{"decreasing tasks", []impl.Move{moveOf(11, 0, 9), moveOf(8, 3, 12), moveOf(5, 0, 6), moveOf(4, 6, 0), moveOf(2, 3, 12)}, bindsOf(2, 12, 5, 6, 8, 12, 11, 9)},
		{"tasks in no order", []impl.Move{moveOf(8, 3, 6), moveOf(11, 0, 9), moveOf(2, 3, 6), moveOf(5, 0, 3), moveOf(4, 6, 12)}, bindsOf(2, 6, 4, 12, 5, 3, 8, 6, 11, 9)},
	} {
		wantMoved(t, s.what, moving(), s.list, s.want...)
		// The moves are of different tasks, so that their order does not matter.
		slices.Reverse(s.list)
		wantMoved(t, s.what+", in reverse", moving(), s.list, s.want...)
	}
	wantMoved(t, "no moves of the empty cluster", impl.Cluster{}, nil)
}

// wrongMoves are moves of which one alone is enough for moving to reject all.
func wrongMoves() map[string]impl.Move {
	out := map[string]impl.Move{
		"a negative To":                             moveOf(8, 3, -1),
		"the smallest To":                           moveOf(8, 3, math.MinInt),
		"a negative To for an unbound task":         moveOf(5, 0, -1),
		"the negative of a node":                    moveOf(8, 3, -3),
		"a node that cannot host the task":          moveOf(8, 3, 9),
		"a node without room":                       moveOf(5, 0, 3),
		"a node without room for a bound task":      moveOf(8, 3, 6),
		"another From":                              moveOf(8, 6, 12),
		"another From, and no change":               moveOf(8, 6, 6),
		"the From of a task that goes where it is":  moveOf(8, 6, 3),
		"0 as the From of a bound task":             moveOf(8, 0, 3),
		"0 as the From of a bound task, and as To":  moveOf(8, 0, 0),
		"0 as the From, to another node":            moveOf(8, 0, 12),
		"a From of an unbound task":                 moveOf(5, 3, 0),
		"a From of an unbound task, and no change":  moveOf(5, 12, 12),
		"a From of an unbound task, to a free node": moveOf(5, 6, 12),
	}
	for _, id := range []int{1, 4, impl.MaxId, impl.MaxId + 1, math.MaxInt} {
		out[fmt.Sprint("no node ", id)] = moveOf(8, 3, id)
		out[fmt.Sprint("no node for an unbound task ", id)] = moveOf(5, 0, id)
	}
	for _, from := range []int{math.MinInt, -1, 1, impl.MaxId + 1, math.MaxInt} {
		out[fmt.Sprint("no node as the From ", from)] = moveOf(8, from, 12)
		out[fmt.Sprint("no node as the From of an unbound task ", from)] = moveOf(5, from, 0)
	}
	for _, id := range []int{math.MinInt, -1, 0, 1, 3, 6, impl.MaxId, impl.MaxId + 1, math.MaxInt} {
		out[fmt.Sprint("no task ", id)] = moveOf(id, 0, 0)
		out[fmt.Sprint("no task with a To ", id)] = moveOf(id, 0, 12)
		out[fmt.Sprint("no task with a From ", id)] = moveOf(id, 3, 0)
	}
	return out
}

// The wrong move is alone, or the first, the middle or the last one.
func TestMovesDoWithAWrongMove(t *testing.T) {
	for what, m := range wrongMoves() {
		wantNotMoved(t, what, moving(), []impl.Move{m})
		others := []impl.Move{moveOf(11, 0, 9), moveOf(2, 3, 3), moveOf(4, 6, 6)}
		wantMoved(t, "the others alone", moving(), others, bindsOf(2, 3, 4, 6, 8, 3, 11, 9)...)
		for at := range len(others) + 1 {
			wantNotMoved(t, fmt.Sprintf("%s at %d", what, at), moving(), slices.Insert(slices.Clone(others), at, m))
		}
	}
}

func TestMovesDoWithATaskTwice(t *testing.T) {
	for _, pair := range [][2]impl.Move{
		{moveOf(8, 3, 3), moveOf(8, 3, 3)},
		{moveOf(8, 3, 0), moveOf(8, 3, 0)},
		{moveOf(8, 3, 12), moveOf(8, 3, 12)},
		{moveOf(8, 3, 0), moveOf(8, 0, 3)},
		{moveOf(8, 3, 12), moveOf(8, 12, 3)},
		{moveOf(8, 3, 12), moveOf(8, 3, 0)},
		{moveOf(8, 3, 3), moveOf(8, 3, 12)},
		{moveOf(5, 0, 0), moveOf(5, 0, 0)},
		{moveOf(5, 0, 12), moveOf(5, 12, 0)},
		{moveOf(5, 0, 12), moveOf(5, 12, 12)},
		{moveOf(5, 0, 12), moveOf(5, 0, 0)},
	} {
		others := []impl.Move{moveOf(2, 3, 3), moveOf(11, 0, 9), moveOf(4, 6, 0)}
		for first := range len(others) + 1 {
			for second := range first + 1 {
				list := slices.Insert(slices.Clone(others), first, pair[0])
				wantNotMoved(t, "a task twice", moving(), slices.Insert(list, second, pair[1]))
			}
		}
		wantNotMoved(t, "a task twice and no other", moving(), pair[:])
	}
	// Far more moves than there can be tasks.
	wantNotMoved(t, "many moves of one task", moving(), slices.Repeat([]impl.Move{moveOf(5, 0, 0)}, 100000))
	wantNotMoved(t, "many moves of the zero value", moving(), make([]impl.Move, 100000))
}

// A cluster that is not valid is not, even if the moves would make it valid.
func TestMovesDoOfInvalid(t *testing.T) {
	for _, clusters := range []map[string]impl.Cluster{brokenClusters(), brokenMarked()} {
		for what, c := range clusters {
			wantNotMoved(t, what, c, nil)
			for _, task := range c.Tasks[:min(len(c.Tasks), 40)] {
				for _, to := range []int{0, 3, 5} {
					wantNotMoved(t, what, c, []impl.Move{moveOf(task.Id, 0, to)})
				}
			}
			for _, b := range c.Binds[:min(len(c.Binds), 40)] {
				for _, to := range []int{0, b.Node, 5} {
					wantNotMoved(t, what, c, []impl.Move{moveOf(b.Task, b.Node, to)})
				}
			}
		}
	}
	full := moving()
	full.Nodes[0].Cap = even(3)
	wantNotMoved(t, "a node that has too much, of which a task leaves it", full, []impl.Move{moveOf(8, 3, 0)})
	unsorted := moving()
	slices.Reverse(unsorted.Binds)
	wantNotMoved(t, "bindings that would be sorted", unsorted, []impl.Move{moveOf(8, 3, 3), moveOf(2, 3, 3), moveOf(4, 6, 6)})
}

// labelled gives a value of the Key 4 to each node, or none where it is
// negative. The tasks have no needs, and each is bound to the node with that
// index, or to none where it is negative.
func labelled(vals []int, places []int) impl.Cluster {
	c := impl.Cluster{}
	for at, val := range vals {
		n := nodeOf(10+at, even(4))
		if val >= 0 {
			n.Labs = []impl.Lab{{Key: 2, Val: at % 2}, {Key: 4, Val: val}}
		}
		c.Nodes = append(c.Nodes, n)
	}
	for at, place := range places {
		c.Tasks = append(c.Tasks, impl.Task{Id: at + 1})
		if place >= 0 {
			c.Binds = append(c.Binds, impl.Bind{Task: at + 1, Node: 10 + place})
		}
	}
	return c
}

func TestSpreadOfAndSkew(t *testing.T) {
	for _, s := range []struct {
		what   string
		vals   []int
		places []int
		skew   int
		want   []impl.Share
	}{
		{"nothing", nil, nil, 0, nil},
		{"no nodes", nil, []int{-1, -1}, 0, nil},
		{"one node without the key", []int{-1}, []int{0, 0}, 0, nil},
		{"nodes without the key", []int{-1, -1, -1}, []int{0, 1, 1, -1}, 0, nil},
		{"one node without tasks", []int{3}, nil, 0, []impl.Share{shareOf(3, 1, 0)}},
		{"one node with tasks that are not bound", []int{3}, []int{-1, -1}, 0, []impl.Share{shareOf(3, 1, 0)}},
		{"one node", []int{3}, []int{0, -1, 0}, 0, []impl.Share{shareOf(3, 1, 2)}},
		{"one value", []int{3, 3, 3}, []int{0, 2, 2, -1, 2}, 0, []impl.Share{shareOf(3, 3, 4)}},
		{"one value and nodes without the key", []int{-1, 3, -1, 3}, []int{0, 1, 2, 3, 3}, 0, []impl.Share{shareOf(3, 2, 3)}},
		{"two values", []int{5, 3}, []int{0, 0, 1}, 1, []impl.Share{shareOf(3, 1, 1), shareOf(5, 1, 2)}},
		{"increasing values", []int{1, 2, 3}, []int{0, 1, 1, 2, 2, 2}, 2, []impl.Share{shareOf(1, 1, 1), shareOf(2, 1, 2), shareOf(3, 1, 3)}},
		{"decreasing values", []int{9, 4, 0}, []int{0, 0, 0, 1, 2, 2}, 2, []impl.Share{shareOf(0, 1, 2), shareOf(4, 1, 1), shareOf(9, 1, 3)}},
		{"values in no order, which repeat", []int{7, 0, 7, 9, 0, 7}, []int{5, 0, 4, 1, 4, 2}, 3, []impl.Share{shareOf(0, 2, 3), shareOf(7, 3, 3), shareOf(9, 1, 0)}},
		{"a node without tasks among others", []int{1, 2, 3}, []int{0, 2}, 1, []impl.Share{shareOf(1, 1, 1), shareOf(2, 1, 0), shareOf(3, 1, 1)}},
		{"no node with tasks", []int{2, 1}, []int{-1}, 0, []impl.Share{shareOf(1, 1, 0), shareOf(2, 1, 0)}},
		{"as many tasks everywhere", []int{2, 1, 2}, []int{0, 1, 1, 2}, 0, []impl.Share{shareOf(1, 1, 2), shareOf(2, 2, 2)}},
		{"all values", []int{9, 8, 7, 6, 5, 4, 3, 2, 1, 0}, []int{0}, 1, []impl.Share{shareOf(0, 1, 0), shareOf(1, 1, 0), shareOf(2, 1, 0),
			shareOf(3, 1, 0), shareOf(4, 1, 0), shareOf(5, 1, 0), shareOf(6, 1, 0), shareOf(7, 1, 0), shareOf(8, 1, 0), shareOf(9, 1, 1)}},
	} {
		c := labelled(s.vals, s.places)
		wantSpread(t, s.what, c, 4, s.skew, s.want...)
		// Other Keys, of which 3 and 5 are beside the one that is there.
		for _, key := range []int{math.MinInt, -1, 0, 1, 3, 5, 9, 10, math.MaxInt} {
			wantSpread(t, s.what, c, key, 0)
		}
		// A node counts whether it is cordoned or not.
		for at := range c.Nodes {
			c.Nodes[at].Cordon = at != 1
		}
		wantSpread(t, s.what+", cordoned", c, 4, s.skew, s.want...)
	}
}

// The first and the last Key, and many of each thing.
func TestSpreadOfAtTheBounds(t *testing.T) {
	c := fullCluster()
	for at := range c.Nodes {
		c.Nodes[at].Labs = []impl.Lab{{Key: 0, Val: 9}, {Key: 9, Val: 1 - at/19}}
	}
	wantSpread(t, "the first Key", c, 0, 0, shareOf(9, impl.MaxNodes, impl.MaxTasks))
	wantSpread(t, "the last Key", c, 9, 30, shareOf(0, 1, 0), shareOf(1, 19, 30))
	wantSpread(t, "a Key that is not there", c, 1, 0)
	wantSpread(t, "a Key that is too great", c, 10, 0)
	wantSpread(t, "a negative Key", c, -1, 0)
	// The same Val of different Keys is not the same label.
	c = impl.Cluster{Nodes: []impl.Node{{Id: 1, Labs: []impl.Lab{{Key: 1, Val: 2}, {Key: 2, Val: 1}}}, {Id: 2, Labs: []impl.Lab{{Key: 2, Val: 2}}}}}
	wantSpread(t, "one node of two", c, 1, 0, shareOf(2, 1, 0))
	wantSpread(t, "both nodes", c, 2, 0, shareOf(1, 1, 0), shareOf(2, 1, 0))
}

func TestSpreadOfInvalid(t *testing.T) {
	for _, clusters := range []map[string]impl.Cluster{brokenClusters(), brokenMarked()} {
		for what, c := range clusters {
			for _, key := range []int{math.MinInt, -1, 0, 1, 3, 6, 9, 10, math.MaxInt} {
				wantSpread(t, what, c, key, -1)
				if got := impl.SpreadOf(c, key); got != nil {
					t.Errorf("SpreadOf, %s, is empty, not nil", what)
				}
			}
		}
	}
}

// wantMayHost also looks at Hopeless: of the tasks in the Queue these are the ones
// for which MayHost is false.
func wantMayHost(t *testing.T, what string, c impl.Cluster, list []impl.Pool, task int, want bool) {
	t.Helper()
	if got := impl.MayHost(c, list, task); got != want {
		t.Errorf("MayHost(%d), %s, is %v", task, what, got)
	}
	hopeless := !want && slices.Contains(impl.Queue(c), task)
	if got := impl.Hopeless(c, list); slices.Contains(got, task) != hopeless {
		t.Errorf("Hopeless, %s, is %v", what, got)
	}
}

func TestMayHostOnNodes(t *testing.T) {
	for _, s := range []struct {
		what   string
		change func(c *impl.Cluster)
		want   bool
	}{
		{"as it is", func(c *impl.Cluster) {}, true},
		{"exactly the Cap", func(c *impl.Cluster) { c.Nodes[0].Cap = even(3) }, true},
		{"less Cap in the first field", func(c *impl.Cluster) { c.Nodes[0].Cap = amounts(2, 9, 9) }, false},
		{"less Cap in the second field", func(c *impl.Cluster) { c.Nodes[0].Cap = amounts(9, 2, 9) }, false},
		{"less Cap in the third field", func(c *impl.Cluster) { c.Nodes[0].Cap = amounts(9, 9, 2) }, false},
		{"no Cap", func(c *impl.Cluster) { c.Nodes[0].Cap = impl.Res{} }, false},
		{"no Cap and no Need", func(c *impl.Cluster) { c.Nodes[0].Cap, c.Tasks[0].Need = impl.Res{}, impl.Res{} }, true},
		{"full", func(c *impl.Cluster) { c.Binds = bindsOf(2, 7) }, true},
		{"full with itself", func(c *impl.Cluster) {
			c.Nodes[0].Cap = even(3)
			c.Binds = bindsOf(1, 7)
		}, true},
		{"cordoned", func(c *impl.Cluster) { c.Nodes[0].Cordon = true }, true},
		{"cordoned and full", func(c *impl.Cluster) { c.Nodes[0].Cordon, c.Binds = true, bindsOf(2, 7) }, true},
		{"another label", func(c *impl.Cluster) { c.Nodes[0].Labs = []impl.Lab{{Key: 1, Val: 3}} }, false},
		{"no label", func(c *impl.Cluster) { c.Nodes[0].Labs = nil }, false},
		{"a taint", func(c *impl.Cluster) { c.Nodes[0].Taints = []int{0} }, false},
		{"a taint that is tolerated", func(c *impl.Cluster) { c.Nodes[0].Taints, c.Tasks[0].Tols = []int{0}, []int{0} }, true},
		{"no nodes", func(c *impl.Cluster) { c.Nodes = nil }, false},
		{"a second node that would do", func(c *impl.Cluster) {
			c.Nodes = append([]impl.Node{nodeOf(3, even(2))}, c.Nodes...)
		}, true},
		{"a second node that does not", func(c *impl.Cluster) {
			c.Nodes[0].Cap = even(2)
			c.Nodes = append(c.Nodes, nodeOf(9, even(9)))
		}, false},
	} {
		c := impl.Cluster{Tasks: []impl.Task{taskOf(1, 0, even(3)), taskOf(2, 0, even(4))}, Nodes: []impl.Node{nodeOf(7, even(4))}}
		c.Tasks[0].Want, c.Nodes[0].Labs = []impl.Lab{{Key: 1, Val: 2}}, []impl.Lab{{Key: 1, Val: 2}}
		s.change(&c)
		if !impl.ClusterOk(c) {
			t.Fatalf("%s: the cluster is not valid", s.what)
		}
		wantMayHost(t, s.what, c, nil, 1, s.want)
		wantMayHost(t, s.what+", with a pool that does not help", c, []impl.Pool{poolOf(3, 0, 9, 9)}, 1, s.want)
		// A pool that would do comes to its help.
		useful := poolOf(4, 0, 1, 3)
		useful.Shape.Labs = []impl.Lab{{Key: 1, Val: 2}}
		wantMayHost(t, s.what+", with a pool that helps", c, []impl.Pool{poolOf(3, 0, 9, 9), useful}, 1, true)
	}
}

func TestMayHostOnPools(t *testing.T) {
	c := impl.Cluster{Tasks: tasksOf(3), Nodes: nodesIn(7, 2, 2)}
	for _, s := range []struct {
		what   string
		change func(p *impl.Pool)
		want   bool
	}{
		{"Max is 0", func(p *impl.Pool) { p.Max = 0 }, false},
		{"Max is 1", func(p *impl.Pool) { p.Max = 1 }, true},
		{"Max is 1, and Min too", func(p *impl.Pool) { p.Min, p.Max = 1, 1 }, true},
		{"Max is MaxNodes", func(p *impl.Pool) { p.Max = impl.MaxNodes }, true},
		{"exactly the Cap", func(p *impl.Pool) { p.Shape.Cap = even(3) }, true},
		{"less Cap", func(p *impl.Pool) { p.Shape.Cap = amounts(9, 9, 2) }, false},
		{"a taint", func(p *impl.Pool) { p.Shape.Taints = []int{9} }, false},
		{"labels", func(p *impl.Pool) { p.Shape.Labs = []impl.Lab{{Key: 1, Val: 1}} }, true},
	} {
		// Of the pool 2 there are nodes already, which differ from its Shape.
		for _, id := range []int{0, 2, 4} {
			p := poolOf(id, 0, 2, 4)
			s.change(&p)
			wantMayHost(t, s.what, c, []impl.Pool{p}, 1, s.want)
			wantMayHost(t, s.what+", without nodes", impl.Cluster{Tasks: c.Tasks}, []impl.Pool{p}, 1, s.want)
			wantMayHost(t, s.what+", without the list", c, nil, 1, false)
			// The task wants a label that the Shape may not have.
			marked := impl.Cluster{Tasks: tasksOf(3), Nodes: c.Nodes}
			marked.Tasks[0].Want = []impl.Lab{{Key: 1, Val: 1}}
			wantMayHost(t, s.what+", with a wanted label", marked, []impl.Pool{p}, 1, s.what == "labels")
		}
	}
	// With Max nodes or more the pool cannot grow, but a Shape would do.
	full := impl.Cluster{Tasks: tasksOf(3), Nodes: nodesIn(7, 2, 1, 1, 1)}
	for greatest, want := range map[int]bool{0: false, 1: true, 2: true, 3: true, 4: true} {
		wantMayHost(t, fmt.Sprint("three nodes with Max ", greatest), full, []impl.Pool{poolOf(1, 0, greatest, 4)}, 1, want)
	}
}

func TestMayHostOfNoTask(t *testing.T) {
	c := moving()
	for _, id := range append(idsAtTheBounds(), 3, 6, 7, 9) {
		wantMayHost(t, "no such task", c, []impl.Pool{poolOf(0, 0, 9, 9)}, id, false)
		wantMayHost(t, "no tasks", impl.Cluster{Nodes: c.Nodes}, []impl.Pool{poolOf(0, 0, 9, 9)}, id, false)
	}
	for _, id := range []int{2, 4, 5, 8, 11} {
		wantMayHost(t, "a task", c, nil, id, true)
	}
}

// Every field is at its limit, and the pool with the greatest Id is of use.
func TestMayHostAtTheLimits(t *testing.T) {
	task := impl.Task{Id: impl.MaxId, Prio: 9, Need: even(most), Want: labsOf([]int{0, 1, 2, 7, 8, 9}), Tols: []int{0, 1, 2, 7, 8, 9}}
	node := impl.Node{Id: impl.MaxId, Pool: impl.MaxPools - 1, Cap: even(most), Labs: task.Want, Taints: task.Tols}
	p := poolOf(impl.MaxPools-1, impl.MaxNodes, impl.MaxNodes, most)
	p.Shape.Labs, p.Shape.Taints = task.Want, task.Tols
	c := impl.Cluster{Tasks: []impl.Task{task}, Nodes: []impl.Node{node}}
	wantMayHost(t, "on a node", c, nil, impl.MaxId, true)
	wantInts(t, "Fill with a node", impl.Fill(c, nil), impl.MaxId)
	c.Nodes[0].Cap.Mem--
	wantMayHost(t, "on a node with too little", c, nil, impl.MaxId, false)
	wantMayHost(t, "on a node of the pool", c, []impl.Pool{p}, impl.MaxId, true)
	wantInts(t, "Fill with the pool", impl.Fill(c, []impl.Pool{p}), impl.MaxId)
	p.Shape.Cap.Pods--
	wantMayHost(t, "on a node of the pool with too little", c, []impl.Pool{p}, impl.MaxId, false)
	wantInts(t, "Fill with the pool with too little", impl.Fill(c, []impl.Pool{p}))
}

// The tasks 1, 4 and 6 fit on no node, and 6 has the greatest Prio.
func TestHopelessOrder(t *testing.T) {
	c := impl.Cluster{
		Tasks: []impl.Task{taskOf(4, 2, even(7)), taskOf(1, 2, even(6)), taskOf(5, 9, even(4)), taskOf(6, 3, even(9)), taskOf(2, 0, even(4)), taskOf(3, 9, even(1))},
		Nodes: nodesIn(8, 4, 0),
		Binds: bindsOf(2, 8),
	}
	for _, s := range []struct {
		what string
		list []impl.Pool
		want []int
	}{
		{"no pools", nil, []int{6, 4, 1}},
		{"a pool that is too small", []impl.Pool{poolOf(1, 0, 9, 5)}, []int{6, 4, 1}},
		{"a pool for one", []impl.Pool{poolOf(1, 0, 9, 6)}, []int{6, 4}},
		{"a pool for two", []impl.Pool{poolOf(1, 0, 9, 8)}, []int{6}},
		{"a pool for all", []impl.Pool{poolOf(1, 0, 9, 9)}, nil},
		{"a pool for all with Max 0", []impl.Pool{poolOf(1, 0, 0, 9)}, []int{6, 4, 1}},
		{"several pools", []impl.Pool{poolOf(0, 0, 9, 5), poolOf(1, 0, 0, 9), poolOf(2, 0, 1, 7)}, []int{6}},
	} {
		wantInts(t, "Hopeless, "+s.what+",", impl.Hopeless(c, s.list), s.want...)
	}
	// A task that is bound is not hopeless, and neither is one that has no room
	// at the moment.
	wantInts(t, "Hopeless of a full cluster", impl.Hopeless(fullCluster(), nil))
	wantInts(t, "Hopeless of the empty cluster", impl.Hopeless(impl.Cluster{}, nil))
	wantInts(t, "Hopeless without nodes", impl.Hopeless(impl.Cluster{Tasks: c.Tasks}, nil), 5, 3, 6, 4, 1, 2)
}

// Nodes of the pool 1 have room for one task each; of the pool 3 there are nodes
// that are not asked for.
func TestFillAtTheBoundsOfAPool(t *testing.T) {
	for _, s := range []struct {
		what            string
		nodes, greatest int
		added           int
	}{
		{"no nodes with Max 0", 0, 0, 0},
		{"no nodes with Max 1", 0, 1, 1},
		{"no nodes with Max 3", 0, 3, 3},
		{"one node with Max 0", 1, 0, 0},
		{"one node with Max 1", 1, 1, 0},
		{"one node with Max 2", 1, 2, 1},
		{"three nodes with Max 2", 3, 2, 0},
		{"three nodes with Max 3", 3, 3, 0},
		{"three nodes with Max 4", 3, 4, 1},
		{"three nodes with Max 5", 3, 5, 2},
		{"no nodes with MaxNodes", 0, impl.MaxNodes, impl.MaxNodes},
		{"one less than MaxNodes", impl.MaxNodes - 1, impl.MaxNodes, 1},
		{"MaxNodes", impl.MaxNodes, impl.MaxNodes, 0},
		{"MaxNodes with Max 0", impl.MaxNodes, 0, 0},
	} {
		for _, first := range []int{1, impl.MaxId - impl.MaxNodes + 1} {
			// The nodes that are there have no room.
			c := impl.Cluster{Nodes: nodesIn(first, 0, append(many(1, s.nodes), many(3, min(3, impl.MaxNodes-s.nodes))...)...)}
			var want []int
			for id := range impl.MaxTasks {
				c.Tasks = append(c.Tasks, taskOf(id+50, 0, even(4)))
				if id < s.added {
					want = append(want, id+50)
				}
			}
			for least := range min(3, s.greatest+1) {
				wantInts(t, "Fill, "+s.what+",", impl.Fill(c, []impl.Pool{poolOf(1, least, s.greatest, 4)}), want...)
			}
			wantInts(t, "Fill, "+s.what+", without the pool,", impl.Fill(c, nil))
			wantInts(t, "Fill, "+s.what+", with a pool that has no room,", impl.Fill(c, []impl.Pool{poolOf(1, 0, s.greatest, 3)}))
		}
	}
}

// There are as many nodes as there may be, and all pools add as many again.
func TestFillBeyondTheLimits(t *testing.T) {
	c := impl.Cluster{Nodes: nodesIn(impl.MaxId-impl.MaxNodes+1, 4, many(2, impl.MaxNodes)...)}
	var all []int
	for id := range impl.MaxTasks {
		c.Tasks = append(c.Tasks, taskOf(id+1, 0, even(4)))
		all = append(all, id+1)
	}
	var list []impl.Pool
	for id := range impl.MaxPools {
		wantInts(t, fmt.Sprint("Fill with pools without room ", id), impl.Fill(c, list), all[:impl.MaxNodes]...)
		list = append(list, poolOf(id, 0, impl.MaxNodes, 3))
	}
	wantInts(t, "Fill with pools without room", impl.Fill(c, list), all[:impl.MaxNodes]...)
	// The pool 2 has MaxNodes nodes, so that none is added to it.
	list[2] = poolOf(2, 0, impl.MaxNodes, 4)
	wantInts(t, "Fill with a pool that cannot grow", impl.Fill(c, list), all[:impl.MaxNodes]...)
	list[4] = poolOf(4, 9, 9, 4)
	wantInts(t, "Fill with the last pool", impl.Fill(c, list), all[:impl.MaxNodes+9]...)
	list[4] = poolOf(4, 0, 11, 4)
	wantInts(t, "Fill with the last pool and room for more", impl.Fill(c, list), all...)
	// Only the nodes that are added last, of the last pool, have room for a task.
	list[4] = poolOf(4, 0, impl.MaxNodes, 5)
	for at := range c.Tasks {
		c.Tasks[at].Need = even(5)
	}
	wantInts(t, "Fill with tasks for the last pool", impl.Fill(c, list), all[:impl.MaxNodes]...)
}

// Task 1 comes first and takes the first of the best nodes, task 2 wants one
// with a label.
func TestFillInTheOrderOfNodes(t *testing.T) {
	label := []impl.Lab{{Key: 1, Val: 1}}
	tasks := tasksOf(4, 4)
	tasks[1].Want = label
	with, without := poolOf(0, 0, 1, 4), poolOf(0, 0, 1, 4)
	with.Shape.Labs = label
	in := func(p impl.Pool, id int) impl.Pool {
		p.Id, p.Shape.Pool = id, id
		return p
	}
	node := nodeOf(impl.MaxId, even(4))
	marked := node
	marked.Labs = label
	for _, s := range []struct {
		what  string
		nodes []impl.Node
		list  []impl.Pool
		want  []int
	}{
		{"the label in the first pool", nil, []impl.Pool{in(with, 1), in(without, 2)}, []int{1}},
		{"the label in the second pool", nil, []impl.Pool{in(without, 1), in(with, 2)}, []int{1, 2}},
		{"the label in both pools", nil, []impl.Pool{in(with, 1), in(with, 2)}, []int{1, 2}},
		{"the label in neither pool", nil, []impl.Pool{in(without, 1), in(without, 4)}, []int{1}},
		{"the label on the node", []impl.Node{marked}, []impl.Pool{in(without, 1)}, []int{1}},
		{"the label in the pool", []impl.Node{node}, []impl.Pool{in(with, 1)}, []int{1, 2}},
		{"the label in the pool and the node cordoned", []impl.Node{cordoned(node)}, []impl.Pool{in(with, 1)}, []int{1}},
		{"the label in the pool of the node", []impl.Node{node}, []impl.Pool{in(with, 0)}, []int{1}},
	} {
		wantInts(t, "Fill, "+s.what+",", impl.Fill(impl.Cluster{Tasks: tasks, Nodes: s.nodes}, s.list), s.want...)
	}
	// The Prio changes the order.
	first := slices.Clone(tasks)
	first[1].Prio = 1
	wantInts(t, "Fill with the second task first", impl.Fill(impl.Cluster{Tasks: first}, []impl.Pool{in(with, 1), in(without, 2)}), 2, 1)
}

// What is bound stays where it is and is not returned; what is placed on the
// nodes that are there is.
func TestFillOfBoundTasks(t *testing.T) {
	c := impl.Cluster{
		Tasks: []impl.Task{taskOf(9, 0, even(4)), taskOf(3, 1, even(3)), taskOf(7, 5, even(4)), taskOf(5, 1, even(3)), taskOf(2, 9, even(9)), taskOf(1, 0, even(1))},
		Nodes: nodesIn(4, 4, 0, 0),
		Binds: bindsOf(9, 4),
	}
	wantInts(t, "Fill without pools", impl.Fill(c, nil), 7)
	wantInts(t, "Fill with pools that cannot grow", impl.Fill(c, []impl.Pool{poolOf(0, 0, 1, 9), poolOf(1, 0, 0, 9)}), 7)
	wantInts(t, "Fill with one node more", impl.Fill(c, []impl.Pool{poolOf(0, 0, 3, 4)}), 7, 3, 1)
	wantInts(t, "Fill with two nodes more", impl.Fill(c, []impl.Pool{poolOf(0, 0, 4, 4)}), 7, 3, 5, 1)
	wantInts(t, "Fill with a node for the largest", impl.Fill(c, []impl.Pool{poolOf(0, 0, 3, 9)}), 2, 7)
	wantInts(t, "Fill with all that is needed", impl.Fill(c, []impl.Pool{poolOf(0, 0, 4, 4), poolOf(2, 1, 1, 9)}), 2, 7, 3, 5, 1)
	c.Nodes[1].Cordon = true
	wantInts(t, "Fill with a cordoned node", impl.Fill(c, nil))
	c.Binds = nil
	wantInts(t, "Fill with nothing bound", impl.Fill(c, nil), 7)
	wantInts(t, "Fill with all bound", impl.Fill(fullCluster(), []impl.Pool{poolOf(1, 0, 9, 9)}))
	wantInts(t, "Fill without tasks", impl.Fill(impl.Cluster{Nodes: nodesUpTo(2)}, []impl.Pool{poolOf(1, 0, 9, 9)}))
}

func TestFeasibilityOfInvalid(t *testing.T) {
	good := impl.Cluster{Tasks: tasksOf(4, 9), Nodes: nodesIn(3, 4, 0)}
	list := []impl.Pool{poolOf(1, 0, 2, 4)}
	wantMayHost(t, "what is valid", good, list, 1, true)
	wantInts(t, "Hopeless of what is valid", impl.Hopeless(good, list), 2)
	wantInts(t, "Fill of what is valid", impl.Fill(good, list), 1)
	wantNothing := func(what string, c impl.Cluster, list []impl.Pool) {
		for id := range 60 {
			if impl.MayHost(c, list, id) {
				t.Errorf("MayHost(%d), %s, is true", id, what)
			}
		}
		if got := impl.Hopeless(c, list); got != nil {
			t.Errorf("Hopeless, %s, is %v", what, got)
		}
		if got := impl.Fill(c, list); got != nil {
			t.Errorf("Fill, %s, is %v", what, got)
		}
	}
	for _, clusters := range []map[string]impl.Cluster{brokenClusters(), brokenMarked()} {
		for what, c := range clusters {
			wantNothing(what, c, list)
			wantNothing(what, c, nil)
		}
	}
	for what, bad := range invalidPoolLists() {
		wantNothing(what, good, bad)
		wantNothing(what, marked(), bad)
		wantNothing(what, impl.Cluster{Tasks: tasksOf(1, 2)}, bad)
	}
	for _, p := range invalidPools(goodPool()) {
		// The pool before it would do.
		wantNothing(fmt.Sprintf("the pool %+v", p), good, []impl.Pool{poolOf(0, 0, 3, 9), p})
		wantNothing(fmt.Sprintf("the pool %+v alone", p), good, []impl.Pool{p})
	}
}

func wantLost(t *testing.T, what string, c impl.Cluster, node int, want ...int) {
	t.Helper()
	wantInts(t, fmt.Sprintf("Lost(%d), %s,", node, what), impl.Lost(c, node), want...)
}

func TestLost(t *testing.T) {
	for _, s := range []struct {
		what   string
		change func(c *impl.Cluster)
		want   []int
	}{
		{"no other node", func(c *impl.Cluster) { c.Nodes = c.Nodes[:1] }, []int{2, 5, 8}},
		{"nodes without room", func(c *impl.Cluster) {}, []int{2, 5, 8}},
		{"a node with room for the smallest", func(c *impl.Cluster) { c.Nodes[1].Cap = even(5) }, []int{2, 8}},
		{"nodes with room for each alone", func(c *impl.Cluster) { c.Nodes[1].Cap = even(7) }, nil},
		{"a node with room for one of two", func(c *impl.Cluster) { c.Nodes[2].Cap = even(2) }, []int{2}},
		{"room for all in one field less", func(c *impl.Cluster) { c.Nodes[2].Cap = amounts(9, 9, 2) }, []int{2}},
		{"a node that is cordoned", func(c *impl.Cluster) {
			c.Nodes[1].Cap = even(9)
			c.Nodes[1].Cordon = true
		}, []int{2, 5, 8}},
		{"the node that is lost cordoned", func(c *impl.Cluster) { c.Nodes[0].Cordon = true }, []int{2, 5, 8}},
		{"the node that is lost cordoned, and room", func(c *impl.Cluster) {
			c.Nodes[0].Cordon = true
			c.Nodes[1].Cap = even(6)
		}, []int{2}},
		{"a label that some want", func(c *impl.Cluster) {
			c.Nodes[0].Labs = []impl.Lab{{Key: 0, Val: 0}}
			c.Tasks[0].Want = c.Nodes[0].Labs
			c.Nodes[1].Cap = even(9)
		}, []int{8}},
		{"a taint that some tolerate", func(c *impl.Cluster) {
			c.Nodes[1].Taints, c.Nodes[1].Cap = []int{0}, even(9)
			c.Tasks[1].Tols, c.Tasks[3].Tols = []int{0}, []int{0}
		}, []int{5, 8}},
		{"tasks without needs", func(c *impl.Cluster) {
			for at := range c.Tasks {
				c.Tasks[at].Need = impl.Res{}
			}
		}, nil},
		{"tasks with less Prio on the others", func(c *impl.Cluster) {
			for at := range 3 {
				c.Tasks[at].Prio = 9
			}
		}, []int{2, 5, 8}},
	} {
		// Node 4 has the tasks 2, 5 and 8, node 6 is full with task 3, and node 9
		// has no room; task 1 is not bound and has no Pick.
		c := impl.Cluster{
			Tasks: []impl.Task{taskOf(8, 0, even(2)), taskOf(2, 3, even(3)), taskOf(5, 9, even(1)), taskOf(3, 0, even(4)), taskOf(1, 0, even(99))},
			Nodes: []impl.Node{nodeOf(4, even(6)), nodeOf(6, even(4)), nodeOf(9, even(0))},
			Binds: bindsOf(2, 4, 3, 6, 5, 4, 8, 4),
		}
		s.change(&c)
		if len(c.Nodes) == 1 {
			c.Binds = bindsOf(2, 4, 5, 4, 8, 4)
		}
		if !impl.ClusterOk(c) {
			t.Fatalf("%s: the cluster is not valid", s.what)
		}
		wantLost(t, s.what, c, 4, s.want...)
	}
}

// The node is the first, one in between or the last; the tasks on it have room
// on one of the others or on none.
func TestLostOfEachNode(t *testing.T) {
	c := impl.Cluster{Tasks: tasksOf(3, 2, 2, 4), Nodes: nodesIn(2, 4, 0, 0, 0, 0), Binds: bindsOf(1, 2, 2, 3, 3, 4, 4, 5)}
	wantLost(t, "room for 2 at most", c, 2, 1)
	wantLost(t, "room beside 3", c, 3)
	wantLost(t, "room beside 1", c, 4)
	wantLost(t, "a full node", c, 5, 4)
	c.Binds = nil
	for _, id := range []int{2, 3, 4, 5} {
		wantLost(t, "no tasks on it", c, id)
	}
	for _, id := range append(idsAtTheBounds(), 6) {
		wantLost(t, "no such node", c, id)
		wantLost(t, "no nodes", impl.Cluster{Tasks: c.Tasks}, id)
		wantLost(t, "the empty cluster", impl.Cluster{}, id)
	}
	ends := impl.Cluster{Tasks: []impl.Task{taskOf(impl.MaxId, 0, even(4)), taskOf(1, 0, even(4))}, Nodes: []impl.Node{nodeOf(1, even(4)), nodeOf(impl.MaxId, even(4))}}
	ends.Binds = bindsOf(1, impl.MaxId, impl.MaxId, 1)
	for _, id := range idsAtTheBounds() {
		want := map[int][]int{1: {impl.MaxId}, impl.MaxId: {1}}[id]
		wantLost(t, "Ids at the bounds", ends, id, want...)
	}
}

// The tasks of a full node have room elsewhere, each alone: two of them would
// not have it, and they are not counted twice.
func TestLostEachAlone(t *testing.T) {
	c := fullCluster()
	for _, n := range c.Nodes[:15] {
		// The nodes 16 to 20 have no tasks.
		wantLost(t, "five nodes without tasks", c, n.Id)
	}
	c.Nodes = c.Nodes[:16]
	c.Nodes[15].Cap = even(1)
	wantLost(t, "room for one", c, 1)
	c.Nodes[15].Cap = amounts(1, 1, 0)
	wantLost(t, "room for none", c, 1, 1, 2)
	all := impl.Cluster{Tasks: tasksUpTo(impl.MaxTasks), Nodes: []impl.Node{nodeOf(50, even(impl.MaxTasks)), nodeOf(51, even(1))}}
	for id := range impl.MaxTasks {
		all.Binds = append(all.Binds, impl.Bind{Task: id + 1, Node: 50})
	}
	wantLost(t, "all tasks and room for one", all, 50)
	all.Nodes[1].Cap = even(0)
	if got := impl.Lost(all, 50); len(got) != impl.MaxTasks || !slices.IsSorted(got) {
		t.Errorf("Lost of all tasks is %v", got)
	}
}

func TestLostOfInvalid(t *testing.T) {
	for _, clusters := range []map[string]impl.Cluster{brokenClusters(), brokenMarked()} {
		for what, c := range clusters {
			for id := -1; id <= impl.MaxId+1; id++ {
				if got := impl.Lost(c, id); got != nil {
					t.Errorf("Lost(%d), %s, is %v", id, what, got)
				}
			}
		}
	}
}

// looked are all results for the same arguments.
type looked struct {
	Moves, Back            []impl.Move
	Moved                  impl.Cluster
	MovesOk, BackOk, DidOk bool
	Spread                 []impl.Share
	Skew                   int
	MayHost                bool
	Hopeless, Fill, Lost   []int
}

type look struct {
	a, b impl.Cluster
	list []impl.Pool
	id   int
}

func (l look) all() looked {
	out := looked{}
	out.Moves, out.MovesOk = impl.MovesOf(l.a, l.b)
	out.Back, out.BackOk = impl.MovesOf(l.b, l.a)
	given := append(slices.Clone(out.Moves), moveOf(-1, -1, -1))[:len(out.Moves)]
	out.Moved, out.DidOk = impl.MovesDo(l.a, given)
	if !slices.Equal(given, out.Moves) || given[:len(given)+1][len(given)] != moveOf(-1, -1, -1) {
		panic("MovesDo changed its moves")
	}
	out.Spread, out.Skew = impl.SpreadOf(l.a, l.id%10), impl.Skew(l.a, l.id%10)
	out.MayHost = impl.MayHost(l.a, l.list, l.id)
	out.Hopeless, out.Fill, out.Lost = impl.Hopeless(l.a, l.list), impl.Fill(l.a, l.list), impl.Lost(l.a, l.id)
	return out
}

func (l looked) text() string { return fmt.Sprintf("%+v", l) }

// markedLook has lists in all tasks, nodes and pools, and something to return
// for each function.
func markedLook() look {
	p := markedPlan()
	p.c.Tasks = append(p.c.Tasks, taskOf(21, 2, even(9)))
	b, _ := impl.PlaceAll(p.c)
	b, _ = impl.BindDrop(b, 4)
	return look{p.c, b, p.list, 3}
}

func TestMarkedLook(t *testing.T) {
	l := markedLook()
	wantMoves(t, "marked", l.a, l.b, moveOf(4, 3, 0), moveOf(8, 0, 3))
	wantMoved(t, "marked", l.a, []impl.Move{moveOf(8, 0, 3), moveOf(4, 3, 0)}, l.b.Binds...)
	wantSpread(t, "marked", l.a, 1, 0, shareOf(2, 3, 2))
	wantInts(t, "Hopeless", impl.Hopeless(l.a, l.list), 21)
	wantInts(t, "Fill", impl.Fill(l.a, l.list), 20, 8)
	wantLost(t, "marked", l.a, 3)
	l.a.Nodes[1].Cap = even(1)
	wantLost(t, "marked and less room", l.a, 3, 15)
}

func TestLooksChangeNoArgumentAndShareNoMemory(t *testing.T) {
	var looks []look
	for _, c := range append(validClusters(), marked(), moving(), labelled([]int{3, 1, -1}, []int{0, 0, 1})) {
		b := c
		b.Binds = nil
		looks = append(looks, look{c, b, fivePools(), 1}, look{b, c, nil, 2}, look{c, c, nil, 5})
	}
	for _, c := range brokenMarked() {
		looks = append(looks, look{c, marked(), markedPlan().list, 3}, look{marked(), c, nil, 15})
	}
	for _, bad := range invalidPoolLists() {
		looks = append(looks, look{marked(), moving(), bad, 4})
	}
	for _, id := range []int{1, 3, 4, 8, 20, 21} {
		l := markedLook()
		l.id = id
		looks = append(looks, l)
	}
	for _, l := range looks {
		given := look{spacious(l.a), spacious(l.b), spaciousPools(l.list), l.id}
		before := wholeText(reflect.ValueOf(given.a)) + wholeText(reflect.ValueOf(given.b)) + wholeText(reflect.ValueOf(given.list))
		first, second := given.all(), given.all()
		if now := wholeText(reflect.ValueOf(given.a)) + wholeText(reflect.ValueOf(given.b)) + wholeText(reflect.ValueOf(given.list)); now != before {
			t.Fatalf("the arguments %s were changed to %s", before, now)
		}
		wantOwnMemory(t, "a result", first, given.a, given.b, given.list, second)
		// The same without spare capacity: nothing behind a list is read.
		if want := l.all(); first.text() != want.text() {
			t.Errorf("of %+v the results are %s with more behind the lists, and %s without", l, first.text(), want.text())
		}
	}
}

func TestLooksWithNilAndEmptyLists(t *testing.T) {
	shape := impl.Node{Id: 1, Cap: even(4), Labs: []impl.Lab{}, Taints: []int{}}
	empty := impl.Cluster{
		Tasks: []impl.Task{{Id: 1, Need: even(4), Want: []impl.Lab{}, Tols: []int{}}, {Id: 2, Want: []impl.Lab{}, Tols: []int{}}},
		Nodes: []impl.Node{{Id: 2, Pool: 3, Labs: []impl.Lab{}, Taints: []int{}}},
		Binds: []impl.Bind{},
	}
	none := impl.Cluster{Tasks: []impl.Task{{Id: 1, Need: even(4)}, {Id: 2}}, Nodes: []impl.Node{{Id: 2, Pool: 3}}}
	bound, same := empty, none
	bound.Binds, same.Binds = bindsOf(2, 2), bindsOf(2, 2)
	nothing := impl.Cluster{Tasks: []impl.Task{}, Nodes: []impl.Node{}, Binds: []impl.Bind{}}
	for _, id := range []int{1, 2} {
		for _, pair := range [][2]look{
			{{empty, bound, []impl.Pool{{Max: 2, Shape: shape}}, id}, {none, same, []impl.Pool{poolOf(0, 0, 2, 4)}, id}},
			{{bound, empty, []impl.Pool{}, id}, {same, none, nil, id}},
			{{bound, nothing, []impl.Pool{}, id}, {same, impl.Cluster{}, nil, id}},
			{{nothing, nothing, []impl.Pool{}, id}, {impl.Cluster{}, impl.Cluster{}, nil, id}},
		} {
			if got, want := pair[0].all().text(), pair[1].all().text(); got != want {
				t.Errorf("the results are %s with empty lists and %s with nil", got, want)
			}
		}
	}
	list, ok := impl.MovesOf(nothing, impl.Cluster{})
	if !ok || len(list) != 0 {
		t.Errorf("MovesOf without tasks is %v, %v", list, ok)
	}
}
