package impl

import (
	"errors"
	"testing"
)

// outer is an error around another one, as an operation of a later chapter may
// return it.
type outer struct{ inner error }

func (o outer) Error() string { return "outer: " + o.inner.Error() }

func (o outer) Unwrap() error { return o.inner }

func TestRejectionHasItsCode(t *testing.T) {
	c := Cluster{Tasks: []Task{{Id: 1}}, Nodes: []Node{{Id: 1}}, Binds: []Bind{{Task: 1, Node: 1}}}
	_, err := withBind(c, Bind{Task: 1, Node: 1})
	var r rejection
	if !errors.As(err, &r) || r.code != DoBound || err.Error() != "rejected with the code 5" {
		t.Errorf("withBind of a bound task is %v, want a rejection with DoBound", err)
	}
	if _, err := withoutBind(c, 1); err != nil {
		t.Errorf("withoutBind of a bound task is %v", err)
	}
}

func TestAnswerFindsTheRejectionInside(t *testing.T) {
	c := Cluster{Tasks: []Task{{Id: 1}}}
	got, code := answer(c, outer{rejection{DoRoom}})
	if code != DoRoom || got.Tasks != nil {
		t.Errorf("answer to a wrapped rejection is %v, %d, want no cluster and DoRoom", got, code)
	}
	got, code = answer(c, nil)
	if code != DoFine || len(got.Tasks) != 1 {
		t.Errorf("answer without a rejection is %v, %d, want the cluster and DoFine", got, code)
	}
}

// All kinds apply: the one at which the check starts is replaced by every one
// that is listed before it.
func TestCheckReturnsTheKindListedFirst(t *testing.T) {
	task := Task{Id: 1, Need: Res{Cpu: 1}, Tols: []int{1}}
	node := Node{Id: 1, Cap: Res{Cpu: 1}, Taints: []int{1}}
	bound := Cluster{Tasks: []Task{task}, Nodes: []Node{node}, Binds: []Bind{{Task: 1, Node: 1}}}
	free := Cluster{Tasks: []Task{task, {Id: 2, Need: Res{Cpu: 2}}}, Nodes: []Node{node}}
	for _, c := range []struct {
		what string
		q    request
		last int
		want int
	}{
		{"room", request{cluster: free, exists: true, task: Task{Id: 2, Need: Res{Cpu: 2}, Tols: []int{1}}, node: node}, DoRoom, DoRoom},
		{"host and room", request{cluster: free, exists: true, task: free.Tasks[1], node: node}, DoRoom, DoHost},
		{"host alone", request{cluster: free, exists: true, task: free.Tasks[1], node: node}, DoHost, DoHost},
		{"room alone where it is not asked for", request{cluster: free, exists: true, task: Task{Id: 2, Need: Res{Cpu: 2}, Tols: []int{1}}, node: node}, DoHost, DoFine},
		{"bound and room", request{cluster: bound, exists: true, task: task, node: node}, DoRoom, DoBound},
		{"none, bound and room", request{cluster: bound, task: task, node: node}, DoRoom, DoNone},
		{"none", request{cluster: bound}, DoNone, DoNone},
		{"twice and full", request{cluster: bound, exists: true, full: true}, DoFull, DoTwice},
		{"full", request{cluster: bound, full: true}, DoFull, DoFull},
		{"form and all others", request{cluster: bound, invalid: true, full: true, task: task, node: node}, DoRoom, DoForm},
		{"nothing", request{cluster: bound, exists: true}, DoNone, DoFine},
	} {
		if _, code := answer(Cluster{}, c.q.check(c.last)); code != c.want {
			t.Errorf("check of %s has the code %d, want %d", c.what, code, c.want)
		}
	}
}
