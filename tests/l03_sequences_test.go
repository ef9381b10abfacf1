package tests

import (
	"fmt"
	"maps"
	"math/rand"
	"slices"
	"testing"

	"loop.example/g00718/impl"
)

// model is a second way to keep a cluster, to which the operations are compared.
type model struct {
	tasks []impl.Task
	nodes map[int]impl.Node
	where map[int]int // the node of each bound task
}

func newModel() *model {
	return &model{nodes: map[int]impl.Node{}, where: map[int]int{}}
}

func (m *model) cluster() impl.Cluster {
	c := impl.Cluster{Tasks: m.tasks}
	for _, id := range slices.Sorted(maps.Keys(m.nodes)) {
		c.Nodes = append(c.Nodes, m.nodes[id])
	}
	for _, id := range slices.Sorted(maps.Keys(m.where)) {
		c.Binds = append(c.Binds, impl.Bind{Task: id, Node: m.where[id]})
	}
	return c
}

func (m *model) task(id int) int {
	for at, t := range m.tasks {
		if t.Id == id {
			return at
		}
	}
	return -1
}

func (m *model) used(node int) impl.Res {
	var sum impl.Res
	for id, on := range m.where {
		if on == node {
			need := m.tasks[m.task(id)].Need
			sum = amounts(sum.Cpu+need.Cpu, sum.Mem+need.Mem, sum.Pods+need.Pods)
		}
	}
	return sum
}

// do carries an operation out and returns the expected code.
func (m *model) do(o operation) int {
	switch o.name {
	case "TaskAdd":
		return m.addTask(o.task)
	case "TaskDrop":
		return m.dropTask(o.id)
	case "NodeAdd":
		return m.addNode(o.node)
	case "NodeDrop":
		return m.dropNode(o.id)
	case "Cordon":
		return m.cordon(o.id, o.on)
	case "BindAdd":
		return m.bind(o.bind)
	default:
		return m.unbind(o.id)
	}
}

func (m *model) addTask(t impl.Task) int {
	if !impl.TaskOk(t) {
		return impl.DoForm
	}
	if m.task(t.Id) >= 0 {
		return impl.DoTwice
	}
	if len(m.tasks) == impl.MaxTasks {
		return impl.DoFull
	}
	m.tasks = append(m.tasks, t)
	return impl.DoFine
}

func (m *model) dropTask(id int) int {
	at := m.task(id)
	if at < 0 {
		return impl.DoNone
	}
	m.tasks = slices.Delete(m.tasks, at, at+1)
	delete(m.where, id)
	return impl.DoFine
}

func (m *model) addNode(n impl.Node) int {
	if !impl.NodeOk(n) {
		return impl.DoForm
	}
	if _, ok := m.nodes[n.Id]; ok {
		return impl.DoTwice
	}
	if len(m.nodes) == impl.MaxNodes {
		return impl.DoFull
	}
	m.nodes[n.Id] = n
	return impl.DoFine
}

func (m *model) dropNode(id int) int {
	if _, ok := m.nodes[id]; !ok {
		return impl.DoNone
	}
	delete(m.nodes, id)
	maps.DeleteFunc(m.where, func(_ int, on int) bool { return on == id })
	return impl.DoFine
}

func (m *model) cordon(id int, on bool) int {
	n, ok := m.nodes[id]
	if !ok {
		return impl.DoNone
	}
	n.Cordon = on
	m.nodes[id] = n
	return impl.DoFine
}

func (m *model) bind(b impl.Bind) int {
	at := m.task(b.Task)
	n, ok := m.nodes[b.Node]
	if at < 0 || !ok {
		return impl.DoNone
	}
	if _, bound := m.where[b.Task]; bound {
		return impl.DoBound
	}
	t := m.tasks[at]
	if n.Cordon || !impl.CanHost(n, t) {
		return impl.DoHost
	}
	used := m.used(b.Node)
	if used.Cpu+t.Need.Cpu > n.Cap.Cpu || used.Mem+t.Need.Mem > n.Cap.Mem || used.Pods+t.Need.Pods > n.Cap.Pods {
		return impl.DoRoom
	}
	m.where[b.Task] = b.Node
	return impl.DoFine
}

func (m *model) unbind(task int) int {
	if _, bound := m.where[task]; !bound {
		return impl.DoNone
	}
	delete(m.where, task)
	return impl.DoFine
}

// luck makes arguments; its seed is fixed, so that every run has the same ones.
type luck struct{ *rand.Rand }

// id is mostly one of a few, so that many exist and many repeat.
func (l luck) id(most int) int {
	if l.Intn(20) == 0 {
		return []int{-1, 0, impl.MaxId, impl.MaxId + 1}[l.Intn(4)]
	}
	return 1 + l.Intn(most)
}

func (l luck) res(limit int) impl.Res {
	if l.Intn(40) == 0 {
		return []impl.Res{amounts(-1, 1, 1), amounts(1, most+1, 1), amounts(most, most, most)}[l.Intn(3)]
	}
	return amounts(l.Intn(limit), l.Intn(limit), l.Intn(limit))
}

func (l luck) labs() []impl.Lab {
	lists := [][]impl.Lab{nil, nil, nil, {}, {{Key: 1, Val: 2}}, {{Key: 1, Val: 2}, {Key: 3, Val: 0}}, {{Key: 3, Val: 1}, {Key: 1, Val: 1}}}
	return slices.Clone(lists[l.Intn(len(lists))])
}

func (l luck) taints() []int {
	lists := [][]int{nil, nil, nil, {}, {5}, {5, 6}, {0, 5, 6}, {6, 5}}
	return slices.Clone(lists[l.Intn(len(lists))])
}

// operation makes one of any kind. Ids are mostly in 1..most.
func (l luck) operation(most int) operation {
	names := []string{"TaskAdd", "TaskAdd", "TaskAdd", "TaskDrop", "NodeAdd", "NodeAdd", "NodeDrop", "Cordon", "BindAdd", "BindAdd", "BindAdd", "BindDrop"}
	return operation{
		name: names[l.Intn(len(names))],
		task: impl.Task{Id: l.id(most), Prio: l.Intn(10), Need: l.res(3), Want: l.labs(), Tols: l.taints()},
		node: impl.Node{Id: l.id(most), Pool: l.Intn(impl.MaxPools), Cap: l.res(6), Labs: l.labs(), Taints: l.taints(), Cordon: l.Intn(8) == 0},
		id:   l.id(most),
		on:   l.Intn(3) == 0,
		bind: impl.Bind{Task: l.id(most), Node: l.id(most)},
	}
}

// Promise 5, third part, and the codes of all operations: long sequences of
// them, accepted and rejected.
func TestSequencesOfOperations(t *testing.T) {
	seen := map[string]bool{}
	for seed := range int64(60) {
		l := luck{rand.New(rand.NewSource(seed))}
		// The more Ids there are the fuller the lists become.
		most := []int{4, 9, 30, 95}[seed%4]
		m := newModel()
		c := impl.Cluster{}
		for range 300 {
			o := l.operation(most)
			before := textOf(c)
			want := m.do(o)
			got, code := o.do(c)
			seen[fmt.Sprint(o.name, " ", code)] = true
			if textOf(c) != before {
				t.Fatalf("%+v changed the cluster %s", o, before)
			}
			if want != impl.DoFine {
				wantRejected(t, fmt.Sprintf("%+v of %s", o, before), got, code, want)
				continue
			}
			wantCluster(t, fmt.Sprintf("%+v of %s", o, before), got, code, m.cluster())
			c = got
			wantSums(t, c)
			wantPlaces(t, c, m)
			if t.Failed() {
				return
			}
		}
	}
	wantSeen(t, seen)
}

// wantPlaces compares NodeOf and Used for every Id with the model.
func wantPlaces(t *testing.T, c impl.Cluster, m *model) {
	t.Helper()
	for id := range impl.MaxId + 2 {
		if got := impl.NodeOf(c, id); got != m.where[id] {
			t.Errorf("NodeOf(%d) of %s is %d, want %d", id, textOf(c), got, m.where[id])
		}
		_, exists := m.nodes[id]
		if got, ok := impl.Used(c, id); ok != exists || got != m.used(id) {
			t.Errorf("Used(%d) of %s is %v, %v, want %v, %v", id, textOf(c), got, ok, m.used(id), exists)
		}
	}
}

// wantSeen fails if the sequences did not lead to every code of every operation.
func wantSeen(t *testing.T, seen map[string]bool) {
	t.Helper()
	for name, codes := range map[string][]int{
		"TaskAdd":  {impl.DoFine, impl.DoForm, impl.DoTwice, impl.DoFull},
		"TaskDrop": {impl.DoFine, impl.DoNone},
		"NodeAdd":  {impl.DoFine, impl.DoForm, impl.DoTwice, impl.DoFull},
		"NodeDrop": {impl.DoFine, impl.DoNone},
		"Cordon":   {impl.DoFine, impl.DoNone},
		"BindAdd":  {impl.DoFine, impl.DoNone, impl.DoBound, impl.DoHost, impl.DoRoom},
		"BindDrop": {impl.DoFine, impl.DoNone},
	} {
		for _, code := range codes {
			if !seen[fmt.Sprint(name, " ", code)] {
				t.Errorf("no sequence led to the code %d of %s", code, name)
			}
		}
	}
}
