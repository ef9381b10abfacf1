package impl

import (
	"slices"
	"testing"
)

func TestNodesForProducesTheNodesThatTakeATask(t *testing.T) {
	c := Cluster{Nodes: []Node{{Id: 2}, {Id: 3, Cordon: true}, {Id: 5, Taints: []int{1}}, {Id: 7}, {Id: 9, Taints: []int{2}}}}
	task := Task{Id: 1, Tols: []int{2}}
	var ids []int
	for n := range nodesFor(c, task) {
		ids = append(ids, n.Id)
	}
	if want := []int{2, 7, 9}; !slices.Equal(ids, want) {
		t.Errorf("nodesFor produces %v, want %v", ids, want)
	}
	for range nodesFor(Cluster{}, task) {
		t.Error("nodesFor produces a node of the empty cluster")
	}
}

// A loop that is left does not get another element.
func TestSequencesEndWithTheLoop(t *testing.T) {
	c := Cluster{
		Tasks: []Task{{Id: 1}, {Id: 2}, {Id: 3}},
		Nodes: []Node{{Id: 4}, {Id: 5}},
		Binds: []Bind{{Task: 1, Node: 5}, {Task: 2, Node: 4}, {Task: 3, Node: 4}},
	}
	for n := range nodesFor(c, Task{Id: 9}) {
		if n.Id != 4 {
			t.Errorf("nodesFor produces %d first", n.Id)
		}
		break
	}
	for task := range tasksOn(c, 4) {
		if task.Id != 2 {
			t.Errorf("tasksOn produces %d first", task.Id)
		}
		break
	}
}

func TestKeepBest(t *testing.T) {
	for _, k := range []struct {
		what   string
		values []int // of 1, 2, ..
		want   int
	}{
		{"none", nil, 0},
		{"one", []int{0}, 1},
		{"one below 0", []int{-3}, 1},
		{"the greatest last", []int{1, 2, 3}, 3},
		{"the greatest first", []int{3, 2, 1}, 1},
		{"equal ones", []int{2, 2, 2}, 1},
		{"equal ones after a smaller one", []int{1, 2, 2}, 2},
		{"equal ones below 0", []int{-2, -1, -1, -3}, 2},
	} {
		offer, best := keepBest[int]()
		for at, value := range k.values {
			offer(at+1, value)
		}
		if got, some := best(); got != k.want || some != (k.want > 0) {
			t.Errorf("the best of %s is %d, %v, want %d", k.what, got, some, k.want)
		}
	}
}

func TestKeepBestForgetsNothingAndSharesNothing(t *testing.T) {
	offerOne, one := keepBest[int]()
	offerTwo, two := keepBest[int]()
	offerOne(1, 5)
	offerTwo(2, 4)
	offerOne(3, 4)
	first, _ := one()
	second, _ := two()
	if first != 1 || second != 2 {
		t.Errorf("the best ones are %d and %d, want 1 and 2", first, second)
	}
}
