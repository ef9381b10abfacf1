package impl

import "testing"

func TestValueByKind(t *testing.T) {
	c := Cluster{Tasks: []Task{{Id: 1, Need: Res{Cpu: 1}}, {Id: 2, Need: Res{Cpu: 1}}}}
	p := Pool{Max: 1, Prio: 7, Shape: Node{Id: 1, Cap: Res{Cpu: 8}}}
	tried := tryOut(c, p)
	for kind, want := range map[int]int{ByTasks: 2, ByShare: 250, ByPrio: 7} {
		if got := tried.value(kind); got != want {
			t.Errorf("the value by %d is %d, want %d", kind, got, want)
		}
	}
}

// The added node is behind all others, also behind the one with the greatest Id
// that there can be.
func TestTryOutAddsBehindAllOthers(t *testing.T) {
	c := Cluster{Tasks: []Task{{Id: 1}}}
	for id := MaxId - MaxNodes + 1; id <= MaxId; id++ {
		c.Nodes = append(c.Nodes, Node{Id: id})
	}
	tried := tryOut(c, Pool{Shape: Node{Id: 1}})
	if last := tried.cluster.Nodes[MaxNodes].Id; last <= MaxId || len(c.Nodes) != MaxNodes {
		t.Errorf("the added node has the Id %d", last)
	}
	if on := tried.cluster.Binds[0].Node; on != c.Nodes[0].Id {
		t.Errorf("the task is on %d, want the first of equal nodes", on)
	}
	for at := range c.Nodes {
		c.Nodes[at].Cordon = true
	}
	tried = tryOut(c, Pool{Shape: Node{Id: 1}})
	if on := tried.cluster.Binds[0].Node; on != trialId || tried.gain != 1 {
		t.Errorf("the task is on %d and the gain is %d, want the added node and 1", on, tried.gain)
	}
}
