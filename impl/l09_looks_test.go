package impl

import (
	"slices"
	"testing"
)

func TestCountsOfLabelsAndOfNumbers(t *testing.T) {
	labs := counts[Lab]{}
	for _, l := range []Lab{{1, 2}, {2, 1}, {1, 2}, {1, 3}} {
		labs.add(l, 1)
	}
	labs.add(Lab{4, 4}, 0)
	if len(labs) != 4 || labs[Lab{1, 2}] != 2 || labs[Lab{2, 1}] != 1 || labs[Lab{1, 3}] != 1 || labs[Lab{4, 4}] != 0 || labs[Lab{0, 0}] != 0 {
		t.Errorf("the counts are %v", labs)
	}
	ids := counts[int]{}
	ids.add(7, 3)
	ids.add(7, 2)
	ids.add(-1, 1)
	if len(ids) != 2 || ids[7] != 5 || ids[-1] != 1 {
		t.Errorf("the counts are %v", ids)
	}
}

func TestCountLabs(t *testing.T) {
	c := Cluster{
		Tasks: []Task{{Id: 1}, {Id: 2}, {Id: 3}, {Id: 4}},
		Nodes: []Node{{Id: 5, Labs: []Lab{{1, 2}, {2, 1}}}, {Id: 6, Labs: []Lab{{1, 2}}}, {Id: 7}, {Id: 8, Labs: []Lab{{1, 3}}}},
		Binds: []Bind{{1, 6}, {2, 5}, {3, 6}, {4, 7}},
	}
	nodes, tasks := countLabs(c)
	for l, want := range map[Lab][2]int{{1, 2}: {2, 3}, {2, 1}: {1, 1}, {1, 3}: {1, 0}, {2, 2}: {0, 0}} {
		if nodes[l] != want[0] || tasks[l] != want[1] {
			t.Errorf("of %v there are %d nodes and %d tasks, want %v", l, nodes[l], tasks[l], want)
		}
	}
}

// The order of a map differs from run to run, so that this is repeated.
func TestSharesAreSortedForOutput(t *testing.T) {
	c := Cluster{}
	var want []Share
	for val := range markValues {
		c.Nodes = append(c.Nodes, Node{Id: val + 1, Labs: []Lab{{3, markValues - 1 - val}}})
		want = append(want, Share{Val: val, Nodes: 1})
	}
	for range 50 {
		if got := SpreadOf(c, 3); !slices.Equal(got, want) {
			t.Fatalf("SpreadOf is %v, want %v", got, want)
		}
	}
}

// Every node has an Id of its own, in the order of the list, even if there are
// more of them than Ids.
func TestWithAllHasIncreasingIds(t *testing.T) {
	c := Cluster{Nodes: []Node{{Id: 5, Pool: 1}, {Id: MaxId, Pool: 1}, {Id: MaxId - 1, Pool: 4}}}
	slices.SortFunc(c.Nodes, func(a Node, b Node) int { return a.Id - b.Id })
	var list []Pool
	for id := range MaxPools {
		list = append(list, Pool{Id: id, Max: MaxNodes, Shape: Node{Id: 1, Pool: id}})
	}
	list[1].Max, list[2].Max = 1, 3
	out := withAll(c, list)
	var pools []int
	for at, n := range out.Nodes {
		if at > 0 && n.Id <= out.Nodes[at-1].Id || at >= len(c.Nodes) && n.Id <= MaxId {
			t.Errorf("the node at %d has the Id %d", at, n.Id)
		}
		pools = append(pools, n.Pool)
	}
	want := slices.Concat([]int{1, 4, 1}, slices.Repeat([]int{0}, MaxNodes), []int{2, 2, 2},
		slices.Repeat([]int{3}, MaxNodes), slices.Repeat([]int{4}, MaxNodes-1))
	if !slices.Equal(pools, want) {
		t.Errorf("the nodes are of the pools %v, want %v", pools, want)
	}
}
